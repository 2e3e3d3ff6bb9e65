/- Chapter 25: FibNumbers, a closed sentence, comes out true. The states between the pieces. -/
import Derived.Test.YtjlieapiedmiiaaRows
import Derived.Test.YtjlieapiedmiiaaEvO
namespace Go.Proofs.Ytjlieapiedmiiaa
open Go Go.Ev Go.RowKit
set_option maxRecDepth 100000
namespace FLaw
theorem good : Ev.Good Try.prog := ⟨by kernel_rfl, by kernel_rfl, by kernel_rfl⟩
noncomputable abbrev G : Nat := Try.prog.globals.size
noncomputable abbrev B : Code := bodyOf Try.f5
noncomputable abbrev NT : Nat := Try.f5.ntmps
noncomputable abbrev pc (p : List Nat) (m ks : List Nat) (L : List AObj) (K : List (Nat × Value)) : Option (AExit × List AObj × List (Nat × Value)) := piece Try.prog noEnv 5 5000 G (nav p B) NT m ks L K
abbrev Gs (W : World) (p : List Nat) (L : List AObj) (K : List (Nat × Value)) (e : AExit) (L' : List AObj) (K' : List (Nat × Value)) : Prop := Goes Try.prog W (nav p B) (hk G L) (tk NT K) e (hk G L') (tk NT K')
theorem gs {W : World} {p m ks : List Nat} {L L' : List AObj} {K K' : List (Nat × Value)} {e : AExit} (hok : okCode (nav p B) = true) (h : pc p m ks L K = some (e, L', K')) : Gs W p L K e L' K' :=
  piece_goes noEnv_sound good hok h
noncomputable abbrev BA18 : Code := bodyOf Try.f18
noncomputable abbrev NTA18 : Nat := Try.f18.ntmps
noncomputable abbrev pcA18 (p : List Nat) (m ks : List Nat) (L : List AObj) (K : List (Nat × Value)) : Option (AExit × List AObj × List (Nat × Value)) := piece Try.prog noEnv 18 5000 G (nav p BA18) NTA18 m ks L K
abbrev GsA18 (W : World) (p : List Nat) (L : List AObj) (K : List (Nat × Value)) (e : AExit) (L' : List AObj) (K' : List (Nat × Value)) : Prop := Goes Try.prog W (nav p BA18) (hk G L) (tk NTA18 K) e (hk G L') (tk NTA18 K')
theorem gsA18 {W : World} {p m ks : List Nat} {L L' : List AObj} {K K' : List (Nat × Value)} {e : AExit} (hok : okCode (nav p BA18) = true) (h : pcA18 p m ks L K = some (e, L', K')) : GsA18 W p L K e L' K' :=
  piece_goes noEnv_sound good hok h
noncomputable abbrev pcK18 (l : List Known) (p : List Nat) (m ks : List Nat) (L : List AObj) (K : List (Nat × Value)) : Option (AExit × List AObj × List (Nat × Value)) := piece Try.prog (knownEnv G noEnv 18 l) 5 5000 G (nav p B) NT m ks L K
theorem gsK18 {W : World} {l : List Known} (hl : ∀ k ∈ l, KnownSum Try.prog 18 k) {p m ks : List Nat} {L L' : List AObj} {K K' : List (Nat × Value)} {e : AExit} (hok : okCode (nav p B) = true) (h : pcK18 l p m ks L K = some (e, L', K')) : Gs W p L K e L' K' :=
  piece_goes (knownEnv_sound noEnv_sound hl) good hok h
theorem ksA18 {x : AExit} {K' : List (Nat × Value)} {L' : List AObj} (L : List AObj) (K : List (Nat × Value)) (k : Known) (h1 : k.objs.map readO = L) (h2 : argsK 0 k.args = K) (h3 : Ev.flat k.ans = true) (h4 : Nat.ble k.args.length NTA18 = true) (h5 : x = .ret ∨ x = .normal)
    (h6 : evResults Try.prog (tk NTA18 K') Try.f18.results.toList ⟨hk G L', 0, none, []⟩ = some ([k.ans], ⟨hk G L', 0, none, []⟩)) (hg : ∀ W : World, GsA18 W [] L K x L' K') : KnownSum Try.prog 18 k :=
  ⟨h3, Try.f18, nav [] BA18, Try.func18, by kernel_rfl, by kernel_rfl, Nat.le_of_ble_eq_true (by kernel_rfl), Nat.le_of_ble_eq_true h4, x, hk G L', K', ⟨hk G L', 0, none, []⟩, h5, h6, rfl, fun W => by rw [h1, h2]; exact hg W⟩
theorem none0 {f : FuncId} : ∀ x ∈ ([] : List Known), KnownSum Try.prog f x := fun _ h => nomatch h
theorem more {f : FuncId} {k : Known} {l : List Known} (h : KnownSum Try.prog f k) (hl : ∀ x ∈ l, KnownSum Try.prog f x) : ∀ x ∈ k :: l, KnownSum Try.prog f x := fun x hx => by
  rcases List.mem_cons.1 hx with rfl | hx
  · exact h
  · exact hl x hx
noncomputable def L0 : List AObj := []
noncomputable def K0 : List (Nat × Value) := []
noncomputable def K1 : List (Nat × Value) := [(2, .int .i64 1)]
noncomputable def K2 : List (Nat × Value) := [(2, .int .i64 1), (4, .int .i64 1)]
noncomputable def K3 : List (Nat × Value) := [(2, .int .i64 1), (4, .int .i64 1), (6, .int .i64 0)]
noncomputable def o0 : AObj := { cells := #[.pointer none, .pointer none, .bool false, .int .i64 0], esz := 0, st := 1, prev := [] }
noncomputable def o1 : AObj := { cells := #[.pointer (some ⟨G + 0, 0, none⟩), .int .i64 0], esz := 0, st := 1, prev := [] }
noncomputable def o2 : AObj := { cells := #[.pointer (some ⟨G + 1, 0, none⟩), .slice none 0 0, .slice none 0 0], esz := 0, st := 1, prev := [] }
noncomputable def o3 : AObj := { cells := #[.int .i64 0, .int .i64 0, .pointer (some ⟨G + 2, 0, none⟩)], esz := 0, st := 1, prev := [] }
noncomputable def L1 : List AObj := [o0, o1, o2, o3]
noncomputable def K4 : List (Nat × Value) := [(2, .int .i64 1), (4, .int .i64 1), (6, .int .i64 0), (7, .pointer (some ⟨G + 3, 0, none⟩)), (8, .int .i64 0)]
noncomputable def K5 : List (Nat × Value) := [(2, .int .i64 1), (4, .int .i64 1), (6, .int .i64 0), (7, .pointer (some ⟨G + 3, 0, none⟩))]
noncomputable def o4 : AObj := { cells := #[.slice none 0 0, .int .i64 0, .int .i64 0], esz := 0, st := 1, prev := [] }
noncomputable def L2 : List AObj := [o0, o1, o2, o3, o4]
noncomputable def K6 : List (Nat × Value) := [(2, .int .i64 1), (4, .int .i64 1), (6, .int .i64 0), (7, .pointer (some ⟨G + 3, 0, none⟩)), (9, .pointer (some ⟨G + 4, 0, none⟩))]
noncomputable def o5 : AObj := { cells := #[.int .i64 7, .int .i64 16], esz := 2, st := 1, prev := [] }
noncomputable def o6 : AObj := { cells := #[.int .i64 7, .int .i64 17], esz := 2, st := 1, prev := [] }
noncomputable def o7 : AObj := { cells := #[.int .i64 1, .int .i64 0, .int .i64 0, .int .u32 0, .slice none 0 0, .bool false, .int .i64 3, .int .i64 2, .int .i64 0, .int .u32 0, .slice none 0 0, .bool false, .int .i64 1, .int .i64 0, .int .i64 0, .int .u32 0, .slice none 0 0, .bool false, .int .i64 1, .int .i64 0, .int .i64 0, .int .u32 1, .slice none 0 0, .bool false, .int .i64 1, .int .i64 0, .int .i64 1, .int .u32 0, .slice none 0 0, .bool false, .int .i64 1, .int .i64 0, .int .i64 2, .int .u32 0, .slice none 0 0, .bool false, .int .i64 3, .int .i64 (-5), .int .i64 0, .int .u32 0, .slice none 0 0, .bool false, .int .i64 1, .int .i64 0, .int .i64 1, .int .u32 0, .slice (some ⟨G + 5, 0, none⟩) 1 0, .bool false, .int .i64 1, .int .i64 0, .int .i64 1, .int .u32 0, .slice (some ⟨G + 6, 0, none⟩) 1 0, .bool false, .int .i64 2, .int .i64 0, .int .i64 3, .int .u32 0, .slice none 0 0, .bool false, .int .i64 2, .int .i64 0, .int .i64 1, .int .u32 0, .slice none 0 0, .bool false, .int .i64 2, .int .i64 0, .int .i64 1, .int .u32 0, .slice none 0 0, .bool false, .int .i64 1, .int .i64 0, .int .i64 1, .int .u32 0, .slice none 0 0, .bool false, .int .i64 3, .int .i64 9999, .int .i64 0, .int .u32 0, .slice none 0 0, .bool false, .int .i64 1, .int .i64 0, .int .i64 32, .int .u32 0, .slice none 0 0, .bool false, .int .i64 1, .int .i64 0, .int .i64 33, .int .u32 0, .slice none 0 0, .bool false, .int .i64 1, .int .i64 0, .int .i64 32, .int .u32 0, .slice none 0 0, .bool false], esz := 6, st := 1, prev := [] }
noncomputable def L3 : List AObj := [o0, o1, o2, o3, o4, o5, o6, o7]
noncomputable def K7 : List (Nat × Value) := [(2, .int .i64 1), (4, .int .i64 1), (6, .int .i64 0), (7, .pointer (some ⟨G + 3, 0, none⟩)), (9, .pointer (some ⟨G + 4, 0, none⟩)), (57, .slice (some ⟨G + 7, 0, none⟩) 17 0), (58, .int .i64 17), (59, .int .i64 0)]
noncomputable def K8 : List (Nat × Value) := [(2, .int .i64 1), (4, .int .i64 1), (6, .int .i64 0), (7, .pointer (some ⟨G + 3, 0, none⟩)), (9, .pointer (some ⟨G + 4, 0, none⟩)), (57, .slice (some ⟨G + 7, 0, none⟩) 17 0), (58, .int .i64 17), (59, .int .i64 0), (60, .bool true)]
noncomputable def o8 : AObj := { cells := #[.int .i64 1, .int .i64 0, .int .i64 0, .int .u32 0, .slice none 0 0, .bool false], esz := 0, st := 1, prev := [], ver := 1 }
noncomputable def L4 : List AObj := [o0, o1, o2, o3, o4, o5, o6, o7, o8]
noncomputable def K9 : List (Nat × Value) := [(2, .int .i64 1), (4, .int .i64 1), (6, .int .i64 0), (7, .pointer (some ⟨G + 3, 0, none⟩)), (9, .pointer (some ⟨G + 4, 0, none⟩)), (11, .pointer (some ⟨G + 8, 0, none⟩)), (57, .slice (some ⟨G + 7, 0, none⟩) 17 0), (58, .int .i64 17), (59, .int .i64 0)]
noncomputable def K10 : List (Nat × Value) := [(2, .int .i64 1), (4, .int .i64 1), (6, .int .i64 0), (7, .pointer (some ⟨G + 3, 0, none⟩)), (9, .pointer (some ⟨G + 4, 0, none⟩)), (57, .slice (some ⟨G + 7, 0, none⟩) 17 0), (58, .int .i64 17), (59, .int .i64 0), (73, .bool false)]
noncomputable def K11 : List (Nat × Value) := [(2, .int .i64 1), (4, .int .i64 1), (6, .int .i64 0), (7, .pointer (some ⟨G + 3, 0, none⟩)), (9, .pointer (some ⟨G + 4, 0, none⟩)), (57, .slice (some ⟨G + 7, 0, none⟩) 17 0), (58, .int .i64 17), (59, .int .i64 1)]
noncomputable def K12 : List (Nat × Value) := [(2, .int .i64 1), (4, .int .i64 1), (6, .int .i64 0), (7, .pointer (some ⟨G + 3, 0, none⟩)), (9, .pointer (some ⟨G + 4, 0, none⟩)), (57, .slice (some ⟨G + 7, 0, none⟩) 17 0), (58, .int .i64 17), (59, .int .i64 1), (60, .bool true)]
noncomputable def o9 : AObj := { cells := #[.int .i64 3, .int .i64 2, .int .i64 0, .int .u32 0, .slice none 0 0, .bool false], esz := 0, st := 1, prev := [], ver := 1 }
noncomputable def L5 : List AObj := [o0, o1, o2, o3, o4, o5, o6, o7, o9]
noncomputable def K13 : List (Nat × Value) := [(2, .int .i64 1), (4, .int .i64 1), (6, .int .i64 0), (7, .pointer (some ⟨G + 3, 0, none⟩)), (9, .pointer (some ⟨G + 4, 0, none⟩)), (11, .pointer (some ⟨G + 8, 0, none⟩)), (57, .slice (some ⟨G + 7, 0, none⟩) 17 0), (58, .int .i64 17), (59, .int .i64 1)]
noncomputable def o10 : AObj := { cells := #[.int .i64 2, .int .i64 0, .pointer (some ⟨G + 2, 0, none⟩)], esz := 0, st := 1, prev := [], ver := 1 }
noncomputable def o11 : AObj := { cells := #[.slice none 0 0, .int .i64 2, .int .i64 0], esz := 0, st := 1, prev := [], ver := 1 }
noncomputable def L6 : List AObj := [o0, o1, o2, o10, o11, o5, o6, o7]
noncomputable def K14 : List (Nat × Value) := [(2, .int .i64 1), (4, .int .i64 1), (6, .int .i64 0), (7, .pointer (some ⟨G + 3, 0, none⟩)), (9, .pointer (some ⟨G + 4, 0, none⟩)), (57, .slice (some ⟨G + 7, 0, none⟩) 17 0), (58, .int .i64 17), (59, .int .i64 1), (73, .bool false)]
noncomputable def K15 : List (Nat × Value) := [(2, .int .i64 1), (4, .int .i64 1), (6, .int .i64 0), (7, .pointer (some ⟨G + 3, 0, none⟩)), (9, .pointer (some ⟨G + 4, 0, none⟩)), (57, .slice (some ⟨G + 7, 0, none⟩) 17 0), (58, .int .i64 17), (59, .int .i64 2)]
noncomputable def K16 : List (Nat × Value) := [(2, .int .i64 1), (4, .int .i64 1), (6, .int .i64 0), (7, .pointer (some ⟨G + 3, 0, none⟩)), (9, .pointer (some ⟨G + 4, 0, none⟩)), (57, .slice (some ⟨G + 7, 0, none⟩) 17 0), (58, .int .i64 17), (59, .int .i64 2), (60, .bool true)]
noncomputable def L7 : List AObj := [o0, o1, o2, o10, o11, o5, o6, o7, o8]
noncomputable def K17 : List (Nat × Value) := [(2, .int .i64 1), (4, .int .i64 1), (6, .int .i64 0), (7, .pointer (some ⟨G + 3, 0, none⟩)), (9, .pointer (some ⟨G + 4, 0, none⟩)), (11, .pointer (some ⟨G + 8, 0, none⟩)), (57, .slice (some ⟨G + 7, 0, none⟩) 17 0), (58, .int .i64 17), (59, .int .i64 2)]
noncomputable def o12 : AObj := { cells := #[.pointer none, .pointer none, .bool true, .int .i64 0], esz := 0, st := 1, prev := [], ver := 2 }
noncomputable def o13 : AObj := { cells := #[.pointer (some ⟨G + 0, 0, none⟩), .int .i64 1], esz := 0, st := 1, prev := [], ver := 1 }
noncomputable def o14 : AObj := { cells := #[.pointer (some ⟨G + 1, 0, none⟩), .slice (some ⟨G + 9, 0, none⟩) 1 0, .slice none 0 0], esz := 0, st := 1, prev := [], ver := 1 }
noncomputable def o15 : AObj := { cells := #[.int .i64 2, .int .i64 1, .pointer (some ⟨G + 2, 0, none⟩)], esz := 0, st := 1, prev := [], ver := 2 }
noncomputable def o16 : AObj := { cells := #[.slice (some ⟨G + 8, 0, none⟩) 1 0, .int .i64 2, .int .i64 1], esz := 0, st := 1, prev := [], ver := 3 }
noncomputable def o17 : AObj := { cells := #[.int .u32 0, .int .i64 0, .slice none 0 0], esz := 3, st := 1, prev := [] }
noncomputable def o18 : AObj := { cells := #[.slice none 0 0], esz := 1, st := 1, prev := [], ver := 1 }
noncomputable def L8 : List AObj := [o12, o13, o14, o15, o16, o5, o6, o7, o17, o18]
noncomputable def K18 : List (Nat × Value) := [(2, .int .i64 1), (4, .int .i64 1), (6, .int .i64 0), (7, .pointer (some ⟨G + 3, 0, none⟩)), (9, .pointer (some ⟨G + 4, 0, none⟩)), (57, .slice (some ⟨G + 7, 0, none⟩) 17 0), (58, .int .i64 17), (59, .int .i64 2), (73, .bool false)]
noncomputable def K19 : List (Nat × Value) := [(2, .int .i64 1), (4, .int .i64 1), (6, .int .i64 0), (7, .pointer (some ⟨G + 3, 0, none⟩)), (9, .pointer (some ⟨G + 4, 0, none⟩)), (57, .slice (some ⟨G + 7, 0, none⟩) 17 0), (58, .int .i64 17), (59, .int .i64 3)]
noncomputable def K20 : List (Nat × Value) := [(2, .int .i64 1), (4, .int .i64 1), (6, .int .i64 0), (7, .pointer (some ⟨G + 3, 0, none⟩)), (9, .pointer (some ⟨G + 4, 0, none⟩)), (57, .slice (some ⟨G + 7, 0, none⟩) 17 0), (58, .int .i64 17), (59, .int .i64 3), (60, .bool true)]
noncomputable def o19 : AObj := { cells := #[.int .i64 1, .int .i64 0, .int .i64 0, .int .u32 1, .slice none 0 0, .bool false], esz := 0, st := 1, prev := [], ver := 1 }
noncomputable def L9 : List AObj := [o12, o13, o14, o15, o16, o5, o6, o7, o17, o18, o19]
noncomputable def K21 : List (Nat × Value) := [(2, .int .i64 1), (4, .int .i64 1), (6, .int .i64 0), (7, .pointer (some ⟨G + 3, 0, none⟩)), (9, .pointer (some ⟨G + 4, 0, none⟩)), (11, .pointer (some ⟨G + 10, 0, none⟩)), (57, .slice (some ⟨G + 7, 0, none⟩) 17 0), (58, .int .i64 17), (59, .int .i64 3)]
noncomputable def K22 : List (Nat × Value) := [(2, .int .i64 1), (4, .int .i64 1), (6, .int .i64 0), (7, .pointer (some ⟨G + 3, 0, none⟩)), (9, .pointer (some ⟨G + 4, 0, none⟩)), (57, .slice (some ⟨G + 7, 0, none⟩) 17 0), (58, .int .i64 17), (59, .int .i64 3), (73, .bool false)]
noncomputable def K23 : List (Nat × Value) := [(2, .int .i64 1), (4, .int .i64 1), (6, .int .i64 0), (7, .pointer (some ⟨G + 3, 0, none⟩)), (9, .pointer (some ⟨G + 4, 0, none⟩)), (57, .slice (some ⟨G + 7, 0, none⟩) 17 0), (58, .int .i64 17), (59, .int .i64 4)]
noncomputable def K24 : List (Nat × Value) := [(2, .int .i64 1), (4, .int .i64 1), (6, .int .i64 0), (7, .pointer (some ⟨G + 3, 0, none⟩)), (9, .pointer (some ⟨G + 4, 0, none⟩)), (57, .slice (some ⟨G + 7, 0, none⟩) 17 0), (58, .int .i64 17), (59, .int .i64 4), (60, .bool true)]
noncomputable def o20 : AObj := { cells := #[.int .i64 1, .int .i64 0, .int .i64 1, .int .u32 0, .slice none 0 0, .bool false], esz := 0, st := 1, prev := [], ver := 1 }
noncomputable def L10 : List AObj := [o12, o13, o14, o15, o16, o5, o6, o7, o17, o18, o20]
noncomputable def K25 : List (Nat × Value) := [(2, .int .i64 1), (4, .int .i64 1), (6, .int .i64 0), (7, .pointer (some ⟨G + 3, 0, none⟩)), (9, .pointer (some ⟨G + 4, 0, none⟩)), (11, .pointer (some ⟨G + 10, 0, none⟩)), (57, .slice (some ⟨G + 7, 0, none⟩) 17 0), (58, .int .i64 17), (59, .int .i64 4)]
noncomputable def o21 : AObj := { cells := #[.pointer (some ⟨G + 10, 0, none⟩), .pointer none, .bool true, .int .i64 0], esz := 0, st := 1, prev := [], ver := 3 }
noncomputable def o22 : AObj := { cells := #[.pointer (some ⟨G + 0, 0, none⟩), .int .i64 2], esz := 0, st := 1, prev := [], ver := 2 }
noncomputable def o23 : AObj := { cells := #[.pointer (some ⟨G + 1, 0, none⟩), .slice (some ⟨G + 9, 0, none⟩) 2 0, .slice none 0 0], esz := 0, st := 1, prev := [], ver := 2 }
noncomputable def o24 : AObj := { cells := #[.int .i64 2, .int .i64 2, .pointer (some ⟨G + 2, 0, none⟩)], esz := 0, st := 1, prev := [], ver := 3 }
noncomputable def o25 : AObj := { cells := #[.slice (some ⟨G + 8, 0, none⟩) 2 0, .int .i64 2, .int .i64 2], esz := 0, st := 1, prev := [], ver := 5 }
noncomputable def o26 : AObj := { cells := #[.int .u32 0, .int .i64 0, .slice none 0 0, .int .u32 0, .int .i64 1, .slice none 0 0], esz := 3, st := 1, prev := [] }
noncomputable def o27 : AObj := { cells := #[.slice none 0 0, .slice none 0 0], esz := 1, st := 1, prev := [], ver := 1 }
noncomputable def o28 : AObj := { cells := #[.pointer none, .pointer none, .bool true, .int .i64 1], esz := 0, st := 1, prev := [], ver := 2 }
noncomputable def L11 : List AObj := [o21, o22, o23, o24, o25, o5, o6, o7, o26, o27, o28]
noncomputable def K26 : List (Nat × Value) := [(2, .int .i64 1), (4, .int .i64 1), (6, .int .i64 0), (7, .pointer (some ⟨G + 3, 0, none⟩)), (9, .pointer (some ⟨G + 4, 0, none⟩)), (57, .slice (some ⟨G + 7, 0, none⟩) 17 0), (58, .int .i64 17), (59, .int .i64 4), (73, .bool false)]
noncomputable def K27 : List (Nat × Value) := [(2, .int .i64 1), (4, .int .i64 1), (6, .int .i64 0), (7, .pointer (some ⟨G + 3, 0, none⟩)), (9, .pointer (some ⟨G + 4, 0, none⟩)), (57, .slice (some ⟨G + 7, 0, none⟩) 17 0), (58, .int .i64 17), (59, .int .i64 5)]
noncomputable def K28 : List (Nat × Value) := [(2, .int .i64 1), (4, .int .i64 1), (6, .int .i64 0), (7, .pointer (some ⟨G + 3, 0, none⟩)), (9, .pointer (some ⟨G + 4, 0, none⟩)), (57, .slice (some ⟨G + 7, 0, none⟩) 17 0), (58, .int .i64 17), (59, .int .i64 5), (60, .bool true)]
noncomputable def o29 : AObj := { cells := #[.int .i64 1, .int .i64 0, .int .i64 2, .int .u32 0, .slice none 0 0, .bool false], esz := 0, st := 1, prev := [], ver := 1 }
noncomputable def L12 : List AObj := [o21, o22, o23, o24, o25, o5, o6, o7, o26, o27, o28, o29]
noncomputable def K29 : List (Nat × Value) := [(2, .int .i64 1), (4, .int .i64 1), (6, .int .i64 0), (7, .pointer (some ⟨G + 3, 0, none⟩)), (9, .pointer (some ⟨G + 4, 0, none⟩)), (11, .pointer (some ⟨G + 11, 0, none⟩)), (57, .slice (some ⟨G + 7, 0, none⟩) 17 0), (58, .int .i64 17), (59, .int .i64 5)]
noncomputable def K30 : List (Nat × Value) := [(2, .int .i64 1), (4, .int .i64 1), (6, .int .i64 0), (7, .pointer (some ⟨G + 3, 0, none⟩)), (9, .pointer (some ⟨G + 4, 0, none⟩)), (57, .slice (some ⟨G + 7, 0, none⟩) 17 0), (58, .int .i64 17), (59, .int .i64 5), (73, .bool false)]
noncomputable def K31 : List (Nat × Value) := [(2, .int .i64 1), (4, .int .i64 1), (6, .int .i64 0), (7, .pointer (some ⟨G + 3, 0, none⟩)), (9, .pointer (some ⟨G + 4, 0, none⟩)), (57, .slice (some ⟨G + 7, 0, none⟩) 17 0), (58, .int .i64 17), (59, .int .i64 6)]
noncomputable def K32 : List (Nat × Value) := [(2, .int .i64 1), (4, .int .i64 1), (6, .int .i64 0), (7, .pointer (some ⟨G + 3, 0, none⟩)), (9, .pointer (some ⟨G + 4, 0, none⟩)), (57, .slice (some ⟨G + 7, 0, none⟩) 17 0), (58, .int .i64 17), (59, .int .i64 6), (60, .bool true)]
noncomputable def o30 : AObj := { cells := #[.int .i64 3, .int .i64 (-5), .int .i64 0, .int .u32 0, .slice none 0 0, .bool false], esz := 0, st := 1, prev := [], ver := 1 }
noncomputable def L13 : List AObj := [o21, o22, o23, o24, o25, o5, o6, o7, o26, o27, o28, o30]
noncomputable def K33 : List (Nat × Value) := [(2, .int .i64 1), (4, .int .i64 1), (6, .int .i64 0), (7, .pointer (some ⟨G + 3, 0, none⟩)), (9, .pointer (some ⟨G + 4, 0, none⟩)), (11, .pointer (some ⟨G + 11, 0, none⟩)), (57, .slice (some ⟨G + 7, 0, none⟩) 17 0), (58, .int .i64 17), (59, .int .i64 6)]
noncomputable def o31 : AObj := { cells := #[.int .i64 0, .int .i64 2, .pointer (some ⟨G + 2, 0, none⟩)], esz := 0, st := 1, prev := [], ver := 4 }
noncomputable def o32 : AObj := { cells := #[.slice (some ⟨G + 8, 0, none⟩) 2 0, .int .i64 0, .int .i64 2], esz := 0, st := 1, prev := [], ver := 7 }
noncomputable def L14 : List AObj := [o21, o22, o23, o31, o32, o5, o6, o7, o26, o27, o28]
noncomputable def K34 : List (Nat × Value) := [(2, .int .i64 1), (4, .int .i64 1), (6, .int .i64 0), (7, .pointer (some ⟨G + 3, 0, none⟩)), (9, .pointer (some ⟨G + 4, 0, none⟩)), (57, .slice (some ⟨G + 7, 0, none⟩) 17 0), (58, .int .i64 17), (59, .int .i64 6), (73, .bool false)]
noncomputable def K35 : List (Nat × Value) := [(2, .int .i64 1), (4, .int .i64 1), (6, .int .i64 0), (7, .pointer (some ⟨G + 3, 0, none⟩)), (9, .pointer (some ⟨G + 4, 0, none⟩)), (57, .slice (some ⟨G + 7, 0, none⟩) 17 0), (58, .int .i64 17), (59, .int .i64 7)]
noncomputable def K36 : List (Nat × Value) := [(2, .int .i64 1), (4, .int .i64 1), (6, .int .i64 0), (7, .pointer (some ⟨G + 3, 0, none⟩)), (9, .pointer (some ⟨G + 4, 0, none⟩)), (57, .slice (some ⟨G + 7, 0, none⟩) 17 0), (58, .int .i64 17), (59, .int .i64 7), (60, .bool true)]
noncomputable def o33 : AObj := { cells := #[.int .i64 1, .int .i64 0, .int .i64 1, .int .u32 0, .slice (some ⟨G + 5, 0, none⟩) 1 0, .bool false], esz := 0, st := 1, prev := [], ver := 1 }
noncomputable def L15 : List AObj := [o21, o22, o23, o31, o32, o5, o6, o7, o26, o27, o28, o33]
noncomputable def K37 : List (Nat × Value) := [(2, .int .i64 1), (4, .int .i64 1), (6, .int .i64 0), (7, .pointer (some ⟨G + 3, 0, none⟩)), (9, .pointer (some ⟨G + 4, 0, none⟩)), (11, .pointer (some ⟨G + 11, 0, none⟩)), (57, .slice (some ⟨G + 7, 0, none⟩) 17 0), (58, .int .i64 17), (59, .int .i64 7)]
noncomputable def o34 : AObj := { cells := #[.pointer (some ⟨G + 9, 0, none⟩), .pointer none, .bool true, .int .i64 0], esz := 0, st := 1, prev := [], ver := 3 }
noncomputable def o35 : AObj := { cells := #[.pointer (some ⟨G + 1, 0, none⟩), .slice (some ⟨G + 8, 0, none⟩) 2 0, .slice none 0 0], esz := 0, st := 1, prev := [], ver := 2 }
noncomputable def o36 : AObj := { cells := #[.int .i64 0, .int .i64 3, .pointer (some ⟨G + 2, 0, none⟩)], esz := 0, st := 1, prev := [], ver := 5 }
noncomputable def o37 : AObj := { cells := #[.slice (some ⟨G + 10, 0, none⟩) 2 0, .int .i64 0, .int .i64 3], esz := 0, st := 1, prev := [], ver := 9 }
noncomputable def o38 : AObj := { cells := #[.slice none 0 0, .slice (some ⟨G + 11, 0, none⟩) 1 0], esz := 1, st := 1, prev := [], ver := 2 }
noncomputable def o39 : AObj := { cells := #[.int .u32 0, .int .i64 0, .slice none 0 0, .int .u32 0, .int .i64 1, .slice (some ⟨G + 5, 0, none⟩) 1 0], esz := 3, st := 1, prev := [] }
noncomputable def L16 : List AObj := [o34, o22, o35, o36, o37, o5, o6, o7, o38, o28, o39, o5]
noncomputable def K38 : List (Nat × Value) := [(2, .int .i64 1), (4, .int .i64 1), (6, .int .i64 0), (7, .pointer (some ⟨G + 3, 0, none⟩)), (9, .pointer (some ⟨G + 4, 0, none⟩)), (57, .slice (some ⟨G + 7, 0, none⟩) 17 0), (58, .int .i64 17), (59, .int .i64 7), (73, .bool false)]
noncomputable def K39 : List (Nat × Value) := [(2, .int .i64 1), (4, .int .i64 1), (6, .int .i64 0), (7, .pointer (some ⟨G + 3, 0, none⟩)), (9, .pointer (some ⟨G + 4, 0, none⟩)), (57, .slice (some ⟨G + 7, 0, none⟩) 17 0), (58, .int .i64 17), (59, .int .i64 8)]
noncomputable def K40 : List (Nat × Value) := [(2, .int .i64 1), (4, .int .i64 1), (6, .int .i64 0), (7, .pointer (some ⟨G + 3, 0, none⟩)), (9, .pointer (some ⟨G + 4, 0, none⟩)), (57, .slice (some ⟨G + 7, 0, none⟩) 17 0), (58, .int .i64 17), (59, .int .i64 8), (60, .bool true)]
noncomputable def o40 : AObj := { cells := #[.int .i64 1, .int .i64 0, .int .i64 1, .int .u32 0, .slice (some ⟨G + 6, 0, none⟩) 1 0, .bool false], esz := 0, st := 1, prev := [], ver := 1 }
noncomputable def L17 : List AObj := [o34, o22, o35, o36, o37, o5, o6, o7, o38, o28, o39, o5, o40]
noncomputable def K41 : List (Nat × Value) := [(2, .int .i64 1), (4, .int .i64 1), (6, .int .i64 0), (7, .pointer (some ⟨G + 3, 0, none⟩)), (9, .pointer (some ⟨G + 4, 0, none⟩)), (11, .pointer (some ⟨G + 12, 0, none⟩)), (57, .slice (some ⟨G + 7, 0, none⟩) 17 0), (58, .int .i64 17), (59, .int .i64 8)]
noncomputable def K42 : List (Nat × Value) := [(2, .int .i64 1), (4, .int .i64 1), (6, .int .i64 0), (7, .pointer (some ⟨G + 3, 0, none⟩)), (9, .pointer (some ⟨G + 4, 0, none⟩)), (57, .slice (some ⟨G + 7, 0, none⟩) 17 0), (58, .int .i64 17), (59, .int .i64 8), (73, .bool false)]
noncomputable def K43 : List (Nat × Value) := [(2, .int .i64 1), (4, .int .i64 1), (6, .int .i64 0), (7, .pointer (some ⟨G + 3, 0, none⟩)), (9, .pointer (some ⟨G + 4, 0, none⟩)), (57, .slice (some ⟨G + 7, 0, none⟩) 17 0), (58, .int .i64 17), (59, .int .i64 9)]
noncomputable def K44 : List (Nat × Value) := [(2, .int .i64 1), (4, .int .i64 1), (6, .int .i64 0), (7, .pointer (some ⟨G + 3, 0, none⟩)), (9, .pointer (some ⟨G + 4, 0, none⟩)), (57, .slice (some ⟨G + 7, 0, none⟩) 17 0), (58, .int .i64 17), (59, .int .i64 9), (60, .bool true)]
noncomputable def o41 : AObj := { cells := #[.int .i64 2, .int .i64 0, .int .i64 3, .int .u32 0, .slice none 0 0, .bool false], esz := 0, st := 1, prev := [], ver := 1 }
noncomputable def L18 : List AObj := [o34, o22, o35, o36, o37, o5, o6, o7, o38, o28, o39, o5, o41]
noncomputable def K45 : List (Nat × Value) := [(2, .int .i64 1), (4, .int .i64 1), (6, .int .i64 0), (7, .pointer (some ⟨G + 3, 0, none⟩)), (9, .pointer (some ⟨G + 4, 0, none⟩)), (11, .pointer (some ⟨G + 12, 0, none⟩)), (57, .slice (some ⟨G + 7, 0, none⟩) 17 0), (58, .int .i64 17), (59, .int .i64 9)]
noncomputable def K46 : List (Nat × Value) := [(2, .int .i64 1), (4, .int .i64 1), (6, .int .i64 0), (7, .pointer (some ⟨G + 3, 0, none⟩)), (9, .pointer (some ⟨G + 4, 0, none⟩)), (57, .slice (some ⟨G + 7, 0, none⟩) 17 0), (58, .int .i64 17), (59, .int .i64 9), (73, .bool false)]
noncomputable def K47 : List (Nat × Value) := [(2, .int .i64 1), (4, .int .i64 1), (6, .int .i64 0), (7, .pointer (some ⟨G + 3, 0, none⟩)), (9, .pointer (some ⟨G + 4, 0, none⟩)), (57, .slice (some ⟨G + 7, 0, none⟩) 17 0), (58, .int .i64 17), (59, .int .i64 10)]
noncomputable def K48 : List (Nat × Value) := [(2, .int .i64 1), (4, .int .i64 1), (6, .int .i64 0), (7, .pointer (some ⟨G + 3, 0, none⟩)), (9, .pointer (some ⟨G + 4, 0, none⟩)), (57, .slice (some ⟨G + 7, 0, none⟩) 17 0), (58, .int .i64 17), (59, .int .i64 10), (60, .bool true)]
noncomputable def o42 : AObj := { cells := #[.int .i64 2, .int .i64 0, .int .i64 1, .int .u32 0, .slice none 0 0, .bool false], esz := 0, st := 1, prev := [], ver := 1 }
noncomputable def L19 : List AObj := [o34, o22, o35, o36, o37, o5, o6, o7, o38, o28, o39, o5, o42]
noncomputable def K49 : List (Nat × Value) := [(2, .int .i64 1), (4, .int .i64 1), (6, .int .i64 0), (7, .pointer (some ⟨G + 3, 0, none⟩)), (9, .pointer (some ⟨G + 4, 0, none⟩)), (11, .pointer (some ⟨G + 12, 0, none⟩)), (57, .slice (some ⟨G + 7, 0, none⟩) 17 0), (58, .int .i64 17), (59, .int .i64 10)]
noncomputable def o43 : AObj := { cells := #[.pointer none, .pointer none, .bool true, .int .i64 0], esz := 0, st := 1, prev := [], ver := 4 }
noncomputable def o44 : AObj := { cells := #[.pointer (some ⟨G + 0, 0, none⟩), .int .i64 1], esz := 0, st := 1, prev := [], ver := 3 }
noncomputable def o45 : AObj := { cells := #[.pointer (some ⟨G + 1, 0, none⟩), .slice (some ⟨G + 8, 0, none⟩) 2 0, .slice (some ⟨G + 9, 0, none⟩) 1 0], esz := 0, st := 1, prev := [], ver := 3 }
noncomputable def o46 : AObj := { cells := #[.int .i64 0, .int .i64 4, .pointer (some ⟨G + 2, 0, none⟩)], esz := 0, st := 1, prev := [], ver := 6 }
noncomputable def o47 : AObj := { cells := #[.slice (some ⟨G + 10, 0, none⟩) 1 0, .int .i64 0, .int .i64 4], esz := 0, st := 1, prev := [], ver := 11 }
noncomputable def o48 : AObj := { cells := #[.slice none 0 0, .slice none 0 0], esz := 1, st := 1, prev := [], ver := 3 }
noncomputable def o49 : AObj := { cells := #[.int .i64 1], esz := 1, st := 1, prev := [] }
noncomputable def L20 : List AObj := [o43, o44, o45, o46, o47, o5, o6, o7, o48, o49, o17]
noncomputable def K50 : List (Nat × Value) := [(2, .int .i64 1), (4, .int .i64 1), (6, .int .i64 0), (7, .pointer (some ⟨G + 3, 0, none⟩)), (9, .pointer (some ⟨G + 4, 0, none⟩)), (57, .slice (some ⟨G + 7, 0, none⟩) 17 0), (58, .int .i64 17), (59, .int .i64 10), (73, .bool false)]
noncomputable def K51 : List (Nat × Value) := [(2, .int .i64 1), (4, .int .i64 1), (6, .int .i64 0), (7, .pointer (some ⟨G + 3, 0, none⟩)), (9, .pointer (some ⟨G + 4, 0, none⟩)), (57, .slice (some ⟨G + 7, 0, none⟩) 17 0), (58, .int .i64 17), (59, .int .i64 11)]
noncomputable def K52 : List (Nat × Value) := [(2, .int .i64 1), (4, .int .i64 1), (6, .int .i64 0), (7, .pointer (some ⟨G + 3, 0, none⟩)), (9, .pointer (some ⟨G + 4, 0, none⟩)), (57, .slice (some ⟨G + 7, 0, none⟩) 17 0), (58, .int .i64 17), (59, .int .i64 11), (60, .bool true)]
noncomputable def L21 : List AObj := [o43, o44, o45, o46, o47, o5, o6, o7, o48, o49, o17, o42]
noncomputable def K53 : List (Nat × Value) := [(2, .int .i64 1), (4, .int .i64 1), (6, .int .i64 0), (7, .pointer (some ⟨G + 3, 0, none⟩)), (9, .pointer (some ⟨G + 4, 0, none⟩)), (11, .pointer (some ⟨G + 11, 0, none⟩)), (57, .slice (some ⟨G + 7, 0, none⟩) 17 0), (58, .int .i64 17), (59, .int .i64 11)]
noncomputable def K54 : List (Nat × Value) := [(2, .int .i64 1), (4, .int .i64 1), (6, .int .i64 0), (7, .pointer (some ⟨G + 3, 0, none⟩)), (9, .pointer (some ⟨G + 4, 0, none⟩)), (57, .slice (some ⟨G + 7, 0, none⟩) 17 0), (58, .int .i64 17), (59, .int .i64 11), (73, .bool false)]
noncomputable def K55 : List (Nat × Value) := [(2, .int .i64 1), (4, .int .i64 1), (6, .int .i64 0), (7, .pointer (some ⟨G + 3, 0, none⟩)), (9, .pointer (some ⟨G + 4, 0, none⟩)), (57, .slice (some ⟨G + 7, 0, none⟩) 17 0), (58, .int .i64 17), (59, .int .i64 12)]
noncomputable def K56 : List (Nat × Value) := [(2, .int .i64 1), (4, .int .i64 1), (6, .int .i64 0), (7, .pointer (some ⟨G + 3, 0, none⟩)), (9, .pointer (some ⟨G + 4, 0, none⟩)), (57, .slice (some ⟨G + 7, 0, none⟩) 17 0), (58, .int .i64 17), (59, .int .i64 12), (60, .bool true)]
noncomputable def L22 : List AObj := [o43, o44, o45, o46, o47, o5, o6, o7, o48, o49, o17, o20]
noncomputable def K57 : List (Nat × Value) := [(2, .int .i64 1), (4, .int .i64 1), (6, .int .i64 0), (7, .pointer (some ⟨G + 3, 0, none⟩)), (9, .pointer (some ⟨G + 4, 0, none⟩)), (11, .pointer (some ⟨G + 11, 0, none⟩)), (57, .slice (some ⟨G + 7, 0, none⟩) 17 0), (58, .int .i64 17), (59, .int .i64 12)]
noncomputable def K58 : List (Nat × Value) := [(2, .int .i64 1), (4, .int .i64 1), (6, .int .i64 0), (7, .pointer (some ⟨G + 3, 0, none⟩)), (9, .pointer (some ⟨G + 4, 0, none⟩)), (57, .slice (some ⟨G + 7, 0, none⟩) 17 0), (58, .int .i64 17), (59, .int .i64 12), (73, .bool false)]
noncomputable def K59 : List (Nat × Value) := [(2, .int .i64 1), (4, .int .i64 1), (6, .int .i64 0), (7, .pointer (some ⟨G + 3, 0, none⟩)), (9, .pointer (some ⟨G + 4, 0, none⟩)), (57, .slice (some ⟨G + 7, 0, none⟩) 17 0), (58, .int .i64 17), (59, .int .i64 13)]
noncomputable def K60 : List (Nat × Value) := [(2, .int .i64 1), (4, .int .i64 1), (6, .int .i64 0), (7, .pointer (some ⟨G + 3, 0, none⟩)), (9, .pointer (some ⟨G + 4, 0, none⟩)), (57, .slice (some ⟨G + 7, 0, none⟩) 17 0), (58, .int .i64 17), (59, .int .i64 13), (60, .bool true)]
noncomputable def o50 : AObj := { cells := #[.int .i64 3, .int .i64 9999, .int .i64 0, .int .u32 0, .slice none 0 0, .bool false], esz := 0, st := 1, prev := [], ver := 1 }
noncomputable def L23 : List AObj := [o43, o44, o45, o46, o47, o5, o6, o7, o48, o49, o17, o50]
noncomputable def K61 : List (Nat × Value) := [(2, .int .i64 1), (4, .int .i64 1), (6, .int .i64 0), (7, .pointer (some ⟨G + 3, 0, none⟩)), (9, .pointer (some ⟨G + 4, 0, none⟩)), (11, .pointer (some ⟨G + 11, 0, none⟩)), (57, .slice (some ⟨G + 7, 0, none⟩) 17 0), (58, .int .i64 17), (59, .int .i64 13)]
noncomputable def o51 : AObj := { cells := #[.int .i64 4096, .int .i64 4, .pointer (some ⟨G + 2, 0, none⟩)], esz := 0, st := 1, prev := [], ver := 7 }
noncomputable def o52 : AObj := { cells := #[.slice (some ⟨G + 10, 0, none⟩) 1 0, .int .i64 4096, .int .i64 4], esz := 0, st := 1, prev := [], ver := 13 }
noncomputable def L24 : List AObj := [o43, o44, o45, o51, o52, o5, o6, o7, o48, o49, o17]
noncomputable def K62 : List (Nat × Value) := [(2, .int .i64 1), (4, .int .i64 1), (6, .int .i64 0), (7, .pointer (some ⟨G + 3, 0, none⟩)), (9, .pointer (some ⟨G + 4, 0, none⟩)), (57, .slice (some ⟨G + 7, 0, none⟩) 17 0), (58, .int .i64 17), (59, .int .i64 13), (73, .bool false)]
noncomputable def K63 : List (Nat × Value) := [(2, .int .i64 1), (4, .int .i64 1), (6, .int .i64 0), (7, .pointer (some ⟨G + 3, 0, none⟩)), (9, .pointer (some ⟨G + 4, 0, none⟩)), (57, .slice (some ⟨G + 7, 0, none⟩) 17 0), (58, .int .i64 17), (59, .int .i64 14)]
noncomputable def K64 : List (Nat × Value) := [(2, .int .i64 1), (4, .int .i64 1), (6, .int .i64 0), (7, .pointer (some ⟨G + 3, 0, none⟩)), (9, .pointer (some ⟨G + 4, 0, none⟩)), (57, .slice (some ⟨G + 7, 0, none⟩) 17 0), (58, .int .i64 17), (59, .int .i64 14), (60, .bool true)]
noncomputable def o53 : AObj := { cells := #[.int .i64 1, .int .i64 0, .int .i64 32, .int .u32 0, .slice none 0 0, .bool false], esz := 0, st := 1, prev := [], ver := 1 }
noncomputable def L25 : List AObj := [o43, o44, o45, o51, o52, o5, o6, o7, o48, o49, o17, o53]
noncomputable def K65 : List (Nat × Value) := [(2, .int .i64 1), (4, .int .i64 1), (6, .int .i64 0), (7, .pointer (some ⟨G + 3, 0, none⟩)), (9, .pointer (some ⟨G + 4, 0, none⟩)), (11, .pointer (some ⟨G + 11, 0, none⟩)), (57, .slice (some ⟨G + 7, 0, none⟩) 17 0), (58, .int .i64 17), (59, .int .i64 14)]
noncomputable def o54 : AObj := { cells := #[.pointer (some ⟨G + 8, 0, none⟩), .pointer none, .bool true, .int .i64 0], esz := 0, st := 0, prev := [] }
noncomputable def o55 : AObj := { cells := #[.pointer (some ⟨G + 0, 0, none⟩), .int .i64 2], esz := 0, st := 0, prev := [] }
noncomputable def o56 : AObj := { cells := #[.pointer (some ⟨G + 1, 0, none⟩), .slice (some ⟨G + 5, 0, none⟩) 2 0, .slice (some ⟨G + 6, 0, none⟩) 0 0], esz := 0, st := 0, prev := [] }
noncomputable def o57 : AObj := { cells := #[.int .i64 4096, .int .i64 5, .pointer (some ⟨G + 2, 0, none⟩)], esz := 0, st := 0, prev := [] }
noncomputable def o58 : AObj := { cells := #[.slice (some ⟨G + 7, 0, none⟩) 2 0, .int .i64 4096, .int .i64 5], esz := 0, st := 0, prev := [] }
noncomputable def o59 : AObj := { cells := #[.slice none 0 0, .slice none 0 0], esz := 1, st := 0, prev := [] }
noncomputable def o60 : AObj := { cells := #[.int .i64 1], esz := 1, st := 0, prev := [] }
noncomputable def o61 : AObj := { cells := #[.int .u32 0, .int .i64 0, .slice none 0 0, .int .u32 0, .int .i64 32, .slice none 0 0], esz := 3, st := 0, prev := [] }
noncomputable def o62 : AObj := { cells := #[.pointer (some ⟨G + 9, 0, none⟩), .pointer none, .bool false, .int .i64 0], esz := 0, st := 0, prev := [] }
noncomputable def o63 : AObj := { cells := #[.pointer (some ⟨G + 10, 0, none⟩), .pointer none, .bool false, .int .i64 0], esz := 0, st := 0, prev := [] }
noncomputable def o64 : AObj := { cells := #[.pointer (some ⟨G + 11, 0, none⟩), .pointer none, .bool false, .int .i64 0], esz := 0, st := 0, prev := [] }
noncomputable def o65 : AObj := { cells := #[.pointer (some ⟨G + 12, 0, none⟩), .pointer none, .bool false, .int .i64 0], esz := 0, st := 0, prev := [] }
noncomputable def o66 : AObj := { cells := #[.pointer (some ⟨G + 13, 0, none⟩), .pointer none, .bool false, .int .i64 0], esz := 0, st := 0, prev := [] }
noncomputable def o67 : AObj := { cells := #[.pointer (some ⟨G + 14, 0, none⟩), .pointer none, .bool false, .int .i64 0], esz := 0, st := 0, prev := [] }
noncomputable def o68 : AObj := { cells := #[.pointer (some ⟨G + 15, 0, none⟩), .pointer none, .bool false, .int .i64 0], esz := 0, st := 0, prev := [] }
noncomputable def o69 : AObj := { cells := #[.pointer (some ⟨G + 16, 0, none⟩), .pointer none, .bool false, .int .i64 0], esz := 0, st := 0, prev := [] }
noncomputable def o70 : AObj := { cells := #[.pointer (some ⟨G + 17, 0, none⟩), .pointer none, .bool false, .int .i64 0], esz := 0, st := 0, prev := [] }
noncomputable def o71 : AObj := { cells := #[.pointer (some ⟨G + 18, 0, none⟩), .pointer none, .bool false, .int .i64 0], esz := 0, st := 0, prev := [] }
noncomputable def o72 : AObj := { cells := #[.pointer (some ⟨G + 19, 0, none⟩), .pointer none, .bool false, .int .i64 0], esz := 0, st := 0, prev := [] }
noncomputable def o73 : AObj := { cells := #[.pointer (some ⟨G + 20, 0, none⟩), .pointer none, .bool false, .int .i64 0], esz := 0, st := 0, prev := [] }
noncomputable def o74 : AObj := { cells := #[.pointer (some ⟨G + 21, 0, none⟩), .pointer none, .bool false, .int .i64 0], esz := 0, st := 0, prev := [] }
noncomputable def o75 : AObj := { cells := #[.pointer (some ⟨G + 22, 0, none⟩), .pointer none, .bool false, .int .i64 0], esz := 0, st := 0, prev := [] }
noncomputable def o76 : AObj := { cells := #[.pointer (some ⟨G + 23, 0, none⟩), .pointer none, .bool false, .int .i64 0], esz := 0, st := 0, prev := [] }
noncomputable def o77 : AObj := { cells := #[.pointer (some ⟨G + 24, 0, none⟩), .pointer none, .bool false, .int .i64 0], esz := 0, st := 0, prev := [] }
noncomputable def o78 : AObj := { cells := #[.pointer (some ⟨G + 25, 0, none⟩), .pointer none, .bool false, .int .i64 0], esz := 0, st := 0, prev := [] }
noncomputable def o79 : AObj := { cells := #[.pointer (some ⟨G + 26, 0, none⟩), .pointer none, .bool false, .int .i64 0], esz := 0, st := 0, prev := [] }
noncomputable def o80 : AObj := { cells := #[.pointer (some ⟨G + 27, 0, none⟩), .pointer none, .bool false, .int .i64 0], esz := 0, st := 0, prev := [] }
noncomputable def o81 : AObj := { cells := #[.pointer (some ⟨G + 28, 0, none⟩), .pointer none, .bool false, .int .i64 0], esz := 0, st := 0, prev := [] }
noncomputable def o82 : AObj := { cells := #[.pointer (some ⟨G + 29, 0, none⟩), .pointer none, .bool false, .int .i64 0], esz := 0, st := 0, prev := [] }
noncomputable def o83 : AObj := { cells := #[.pointer (some ⟨G + 30, 0, none⟩), .pointer none, .bool false, .int .i64 0], esz := 0, st := 0, prev := [] }
noncomputable def o84 : AObj := { cells := #[.pointer (some ⟨G + 31, 0, none⟩), .pointer none, .bool false, .int .i64 0], esz := 0, st := 0, prev := [] }
noncomputable def o85 : AObj := { cells := #[.pointer (some ⟨G + 32, 0, none⟩), .pointer none, .bool false, .int .i64 0], esz := 0, st := 0, prev := [] }
noncomputable def o86 : AObj := { cells := #[.pointer (some ⟨G + 33, 0, none⟩), .pointer none, .bool false, .int .i64 0], esz := 0, st := 0, prev := [] }
noncomputable def o87 : AObj := { cells := #[.pointer (some ⟨G + 34, 0, none⟩), .pointer none, .bool false, .int .i64 0], esz := 0, st := 0, prev := [] }
noncomputable def o88 : AObj := { cells := #[.pointer (some ⟨G + 35, 0, none⟩), .pointer none, .bool false, .int .i64 0], esz := 0, st := 0, prev := [] }
noncomputable def o89 : AObj := { cells := #[.pointer (some ⟨G + 36, 0, none⟩), .pointer none, .bool false, .int .i64 0], esz := 0, st := 0, prev := [] }
noncomputable def o90 : AObj := { cells := #[.pointer (some ⟨G + 37, 0, none⟩), .pointer none, .bool false, .int .i64 0], esz := 0, st := 0, prev := [] }
noncomputable def o91 : AObj := { cells := #[.pointer (some ⟨G + 38, 0, none⟩), .pointer none, .bool false, .int .i64 0], esz := 0, st := 0, prev := [] }
noncomputable def o92 : AObj := { cells := #[.pointer (some ⟨G + 39, 0, none⟩), .pointer none, .bool false, .int .i64 0], esz := 0, st := 0, prev := [] }
noncomputable def o93 : AObj := { cells := #[.pointer none, .pointer none, .bool true, .int .i64 1], esz := 0, st := 0, prev := [] }
noncomputable def L26 : List AObj := [o54, o55, o56, o57, o58, o59, o60, o61, o62, o63, o64, o65, o66, o67, o68, o69, o70, o71, o72, o73, o74, o75, o76, o77, o78, o79, o80, o81, o82, o83, o84, o85, o86, o87, o88, o89, o90, o91, o92, o93]
noncomputable def K66 : List (Nat × Value) := [(0, .pointer (some ⟨G + 3, 0, none⟩)), (1, .pointer (some ⟨G + 4, 0, none⟩))]
noncomputable def o94 : AObj := { cells := #[.int .u32 0, .int .u32 0, .int .u32 0, .int .u32 0, .int .u32 1], esz := 1, st := 1, prev := [] }
noncomputable def L27 : List AObj := [o54, o55, o56, o57, o58, o59, o60, o61, o62, o63, o64, o65, o66, o67, o68, o69, o70, o71, o72, o73, o74, o75, o76, o77, o78, o79, o80, o81, o82, o83, o84, o85, o86, o87, o88, o89, o90, o91, o92, o93, o94]
noncomputable def K67 : List (Nat × Value) := [(0, .pointer (some ⟨G + 3, 0, none⟩)), (1, .pointer (some ⟨G + 4, 0, none⟩)), (5, .slice (some ⟨G + 40, 0, none⟩) 5 0)]
noncomputable def K68 : List (Nat × Value) := [(0, .pointer (some ⟨G + 3, 0, none⟩)), (1, .pointer (some ⟨G + 4, 0, none⟩)), (5, .slice (some ⟨G + 40, 0, none⟩) 5 0), (6, .int .i64 0)]
noncomputable def K69 : List (Nat × Value) := [(0, .pointer (some ⟨G + 3, 0, none⟩)), (1, .pointer (some ⟨G + 4, 0, none⟩)), (5, .slice (some ⟨G + 40, 0, none⟩) 5 0), (6, .int .i64 0), (7, .slice none 0 0), (8, .bool true)]
noncomputable def K70 : List (Nat × Value) := [(0, .pointer (some ⟨G + 3, 0, none⟩)), (1, .pointer (some ⟨G + 4, 0, none⟩)), (5, .slice (some ⟨G + 40, 0, none⟩) 5 0), (6, .int .i64 0), (7, .slice none 0 0), (8, .bool true), (9, .bool false)]
noncomputable def K71 : List (Nat × Value) := [(0, .pointer (some ⟨G + 3, 0, none⟩)), (1, .pointer (some ⟨G + 4, 0, none⟩)), (5, .slice (some ⟨G + 40, 0, none⟩) 5 0), (6, .int .i64 0), (7, .slice none 0 0), (8, .bool true), (9, .bool false), (10, .int .i64 0)]
noncomputable def K72 : List (Nat × Value) := [(0, .pointer (some ⟨G + 3, 0, none⟩)), (1, .pointer (some ⟨G + 4, 0, none⟩)), (5, .slice (some ⟨G + 40, 0, none⟩) 5 0), (6, .int .i64 0), (7, .slice none 0 0), (8, .bool true), (9, .bool true), (10, .int .i64 1)]
noncomputable def K73 : List (Nat × Value) := [(0, .pointer (some ⟨G + 3, 0, none⟩)), (1, .pointer (some ⟨G + 4, 0, none⟩)), (5, .slice (some ⟨G + 40, 0, none⟩) 5 0), (6, .int .i64 0), (7, .slice none 0 0), (8, .bool true), (9, .bool true), (10, .int .i64 2)]
noncomputable def K74 : List (Nat × Value) := [(0, .pointer (some ⟨G + 3, 0, none⟩)), (1, .pointer (some ⟨G + 4, 0, none⟩)), (5, .slice (some ⟨G + 40, 0, none⟩) 5 0), (6, .int .i64 0), (7, .slice none 0 0), (8, .bool true), (9, .bool true)]
noncomputable def K75 : List (Nat × Value) := [(0, .pointer (some ⟨G + 3, 0, none⟩)), (1, .pointer (some ⟨G + 4, 0, none⟩)), (5, .slice (some ⟨G + 40, 0, none⟩) 5 0), (6, .int .i64 1)]
noncomputable def K76 : List (Nat × Value) := [(0, .pointer (some ⟨G + 3, 0, none⟩)), (1, .pointer (some ⟨G + 4, 0, none⟩)), (5, .slice (some ⟨G + 40, 0, none⟩) 5 0), (6, .int .i64 1), (7, .slice none 0 0), (8, .bool true)]
noncomputable def K77 : List (Nat × Value) := [(0, .pointer (some ⟨G + 3, 0, none⟩)), (1, .pointer (some ⟨G + 4, 0, none⟩)), (5, .slice (some ⟨G + 40, 0, none⟩) 5 0), (6, .int .i64 1), (7, .slice none 0 0), (8, .bool true), (9, .bool false)]
noncomputable def K78 : List (Nat × Value) := [(0, .pointer (some ⟨G + 3, 0, none⟩)), (1, .pointer (some ⟨G + 4, 0, none⟩)), (5, .slice (some ⟨G + 40, 0, none⟩) 5 0), (6, .int .i64 1), (7, .slice none 0 0), (8, .bool true), (9, .bool false), (10, .int .i64 0)]
noncomputable def K79 : List (Nat × Value) := [(0, .pointer (some ⟨G + 3, 0, none⟩)), (1, .pointer (some ⟨G + 4, 0, none⟩)), (5, .slice (some ⟨G + 40, 0, none⟩) 5 0), (6, .int .i64 1), (7, .slice none 0 0), (8, .bool true), (9, .bool true), (10, .int .i64 1)]
noncomputable def K80 : List (Nat × Value) := [(0, .pointer (some ⟨G + 3, 0, none⟩)), (1, .pointer (some ⟨G + 4, 0, none⟩)), (5, .slice (some ⟨G + 40, 0, none⟩) 5 0), (6, .int .i64 1), (7, .slice none 0 0), (8, .bool true), (9, .bool true), (10, .int .i64 2)]
noncomputable def K81 : List (Nat × Value) := [(0, .pointer (some ⟨G + 3, 0, none⟩)), (1, .pointer (some ⟨G + 4, 0, none⟩)), (5, .slice (some ⟨G + 40, 0, none⟩) 5 0), (6, .int .i64 1), (7, .slice none 0 0), (8, .bool true), (9, .bool true)]
noncomputable def K82 : List (Nat × Value) := [(0, .pointer (some ⟨G + 3, 0, none⟩)), (1, .pointer (some ⟨G + 4, 0, none⟩)), (5, .slice (some ⟨G + 40, 0, none⟩) 5 0), (6, .int .i64 2)]
noncomputable def K83 : List (Nat × Value) := [(0, .pointer (some ⟨G + 3, 0, none⟩)), (1, .pointer (some ⟨G + 4, 0, none⟩)), (5, .slice (some ⟨G + 40, 0, none⟩) 5 0), (6, .int .i64 2), (7, .slice none 0 0), (8, .bool true)]
noncomputable def K84 : List (Nat × Value) := [(0, .pointer (some ⟨G + 3, 0, none⟩)), (1, .pointer (some ⟨G + 4, 0, none⟩)), (5, .slice (some ⟨G + 40, 0, none⟩) 5 0), (6, .int .i64 2), (7, .slice none 0 0), (8, .bool true), (9, .bool false)]
noncomputable def K85 : List (Nat × Value) := [(0, .pointer (some ⟨G + 3, 0, none⟩)), (1, .pointer (some ⟨G + 4, 0, none⟩)), (5, .slice (some ⟨G + 40, 0, none⟩) 5 0), (6, .int .i64 2), (7, .slice none 0 0), (8, .bool true), (9, .bool false), (10, .int .i64 0)]
noncomputable def K86 : List (Nat × Value) := [(0, .pointer (some ⟨G + 3, 0, none⟩)), (1, .pointer (some ⟨G + 4, 0, none⟩)), (5, .slice (some ⟨G + 40, 0, none⟩) 5 0), (6, .int .i64 2), (7, .slice none 0 0), (8, .bool true), (9, .bool true), (10, .int .i64 1)]
noncomputable def K87 : List (Nat × Value) := [(0, .pointer (some ⟨G + 3, 0, none⟩)), (1, .pointer (some ⟨G + 4, 0, none⟩)), (5, .slice (some ⟨G + 40, 0, none⟩) 5 0), (6, .int .i64 2), (7, .slice none 0 0), (8, .bool true), (9, .bool true), (10, .int .i64 2)]
noncomputable def K88 : List (Nat × Value) := [(0, .pointer (some ⟨G + 3, 0, none⟩)), (1, .pointer (some ⟨G + 4, 0, none⟩)), (5, .slice (some ⟨G + 40, 0, none⟩) 5 0), (6, .int .i64 2), (7, .slice none 0 0), (8, .bool true), (9, .bool true)]
noncomputable def K89 : List (Nat × Value) := [(0, .pointer (some ⟨G + 3, 0, none⟩)), (1, .pointer (some ⟨G + 4, 0, none⟩)), (5, .slice (some ⟨G + 40, 0, none⟩) 5 0), (6, .int .i64 3)]
noncomputable def K90 : List (Nat × Value) := [(0, .pointer (some ⟨G + 3, 0, none⟩)), (1, .pointer (some ⟨G + 4, 0, none⟩)), (5, .slice (some ⟨G + 40, 0, none⟩) 5 0), (6, .int .i64 3), (7, .slice none 0 0), (8, .bool true)]
noncomputable def K91 : List (Nat × Value) := [(0, .pointer (some ⟨G + 3, 0, none⟩)), (1, .pointer (some ⟨G + 4, 0, none⟩)), (5, .slice (some ⟨G + 40, 0, none⟩) 5 0), (6, .int .i64 3), (7, .slice none 0 0), (8, .bool true), (9, .bool false)]
noncomputable def K92 : List (Nat × Value) := [(0, .pointer (some ⟨G + 3, 0, none⟩)), (1, .pointer (some ⟨G + 4, 0, none⟩)), (5, .slice (some ⟨G + 40, 0, none⟩) 5 0), (6, .int .i64 3), (7, .slice none 0 0), (8, .bool true), (9, .bool false), (10, .int .i64 0)]
noncomputable def K93 : List (Nat × Value) := [(0, .pointer (some ⟨G + 3, 0, none⟩)), (1, .pointer (some ⟨G + 4, 0, none⟩)), (5, .slice (some ⟨G + 40, 0, none⟩) 5 0), (6, .int .i64 3), (7, .slice none 0 0), (8, .bool true), (9, .bool true), (10, .int .i64 1)]
noncomputable def K94 : List (Nat × Value) := [(0, .pointer (some ⟨G + 3, 0, none⟩)), (1, .pointer (some ⟨G + 4, 0, none⟩)), (5, .slice (some ⟨G + 40, 0, none⟩) 5 0), (6, .int .i64 3), (7, .slice none 0 0), (8, .bool true), (9, .bool true), (10, .int .i64 2)]
noncomputable def K95 : List (Nat × Value) := [(0, .pointer (some ⟨G + 3, 0, none⟩)), (1, .pointer (some ⟨G + 4, 0, none⟩)), (5, .slice (some ⟨G + 40, 0, none⟩) 5 0), (6, .int .i64 3), (7, .slice none 0 0), (8, .bool true), (9, .bool true)]
noncomputable def K96 : List (Nat × Value) := [(0, .pointer (some ⟨G + 3, 0, none⟩)), (1, .pointer (some ⟨G + 4, 0, none⟩)), (5, .slice (some ⟨G + 40, 0, none⟩) 5 0), (6, .int .i64 4)]
noncomputable def K97 : List (Nat × Value) := [(0, .pointer (some ⟨G + 3, 0, none⟩)), (1, .pointer (some ⟨G + 4, 0, none⟩)), (5, .slice (some ⟨G + 40, 0, none⟩) 5 0), (6, .int .i64 4), (7, .slice none 0 0), (8, .bool true)]
noncomputable def K98 : List (Nat × Value) := [(0, .pointer (some ⟨G + 3, 0, none⟩)), (1, .pointer (some ⟨G + 4, 0, none⟩)), (5, .slice (some ⟨G + 40, 0, none⟩) 5 0), (6, .int .i64 4), (7, .slice none 0 0), (8, .bool true), (9, .bool false)]
noncomputable def K99 : List (Nat × Value) := [(0, .pointer (some ⟨G + 3, 0, none⟩)), (1, .pointer (some ⟨G + 4, 0, none⟩)), (5, .slice (some ⟨G + 40, 0, none⟩) 5 0), (6, .int .i64 4), (7, .slice none 0 0), (8, .bool true), (9, .bool false), (10, .int .i64 0)]
noncomputable def K100 : List (Nat × Value) := [(0, .pointer (some ⟨G + 3, 0, none⟩)), (1, .pointer (some ⟨G + 4, 0, none⟩)), (5, .slice (some ⟨G + 40, 0, none⟩) 5 0), (6, .int .i64 4), (7, .slice none 0 0), (8, .bool true), (9, .bool true), (10, .int .i64 1)]
noncomputable def K101 : List (Nat × Value) := [(0, .pointer (some ⟨G + 3, 0, none⟩)), (1, .pointer (some ⟨G + 4, 0, none⟩)), (5, .slice (some ⟨G + 40, 0, none⟩) 5 0), (6, .int .i64 4), (7, .slice none 0 0), (8, .bool true), (9, .bool true), (10, .int .i64 2)]
noncomputable def K102 : List (Nat × Value) := [(0, .pointer (some ⟨G + 3, 0, none⟩)), (1, .pointer (some ⟨G + 4, 0, none⟩)), (5, .slice (some ⟨G + 40, 0, none⟩) 5 0), (6, .int .i64 4), (7, .slice none 0 0), (8, .bool true), (9, .bool true)]
noncomputable def K103 : List (Nat × Value) := [(0, .pointer (some ⟨G + 3, 0, none⟩)), (1, .pointer (some ⟨G + 4, 0, none⟩)), (5, .slice (some ⟨G + 40, 0, none⟩) 5 0), (6, .int .i64 5)]
noncomputable def K104 : List (Nat × Value) := [(4, .bool true)]
noncomputable def kn283 : Known := { ids := [G + 0, G + 1, G + 2, G + 3, G + 4, G + 8, G + 9, G + 19, G + 27, G + 28, G + 29, G + 30, G + 31, G + 32, G + 33, G + 34, G + 35, G + 36, G + 37, G + 38, G + 39, G + 40, G + 41, G + 42, G + 43, G + 44, G + 45, G + 46, G + 47, G + 48, G + 49, G + 50, G + 51, G + 52, G + 53, G + 54, G + 55, G + 56, G + 57, G + 58], objs := L26, args := [.pointer (some ⟨G + 3, 0, none⟩), .pointer (some ⟨G + 4, 0, none⟩)], ans := .bool true }
noncomputable def o95 : AObj := { cells := #[.pointer (some ⟨G + 11, 0, none⟩), .pointer none, .bool true, .int .i64 0], esz := 0, st := 1, prev := [], ver := 5 }
noncomputable def o96 : AObj := { cells := #[.pointer (some ⟨G + 0, 0, none⟩), .int .i64 2], esz := 0, st := 1, prev := [], ver := 4 }
noncomputable def o97 : AObj := { cells := #[.pointer (some ⟨G + 1, 0, none⟩), .slice (some ⟨G + 8, 0, none⟩) 2 0, .slice (some ⟨G + 9, 0, none⟩) 0 0], esz := 0, st := 1, prev := [], ver := 4 }
noncomputable def o98 : AObj := { cells := #[.int .i64 4096, .int .i64 5, .pointer (some ⟨G + 2, 0, none⟩)], esz := 0, st := 1, prev := [], ver := 8 }
noncomputable def o99 : AObj := { cells := #[.slice (some ⟨G + 10, 0, none⟩) 2 0, .int .i64 4096, .int .i64 5], esz := 0, st := 1, prev := [], ver := 15 }
noncomputable def o100 : AObj := { cells := #[.slice none 0 0, .slice none 0 0], esz := 1, st := 1, prev := [], ver := 4 }
noncomputable def o101 : AObj := { cells := #[.int .u32 0, .int .i64 0, .slice none 0 0, .int .u32 0, .int .i64 32, .slice none 0 0], esz := 3, st := 1, prev := [] }
noncomputable def o102 : AObj := { cells := #[.pointer (some ⟨G + 12, 0, none⟩), .pointer none, .bool false, .int .i64 0], esz := 0, st := 1, prev := [], ver := 1 }
noncomputable def o103 : AObj := { cells := #[.pointer (some ⟨G + 13, 0, none⟩), .pointer none, .bool false, .int .i64 0], esz := 0, st := 1, prev := [], ver := 1 }
noncomputable def o104 : AObj := { cells := #[.pointer (some ⟨G + 14, 0, none⟩), .pointer none, .bool false, .int .i64 0], esz := 0, st := 1, prev := [], ver := 1 }
noncomputable def o105 : AObj := { cells := #[.pointer (some ⟨G + 15, 0, none⟩), .pointer none, .bool false, .int .i64 0], esz := 0, st := 1, prev := [], ver := 1 }
noncomputable def o106 : AObj := { cells := #[.pointer (some ⟨G + 16, 0, none⟩), .pointer none, .bool false, .int .i64 0], esz := 0, st := 1, prev := [], ver := 1 }
noncomputable def o107 : AObj := { cells := #[.pointer (some ⟨G + 17, 0, none⟩), .pointer none, .bool false, .int .i64 0], esz := 0, st := 1, prev := [], ver := 1 }
noncomputable def o108 : AObj := { cells := #[.pointer (some ⟨G + 18, 0, none⟩), .pointer none, .bool false, .int .i64 0], esz := 0, st := 1, prev := [], ver := 1 }
noncomputable def o109 : AObj := { cells := #[.pointer (some ⟨G + 19, 0, none⟩), .pointer none, .bool false, .int .i64 0], esz := 0, st := 1, prev := [], ver := 1 }
noncomputable def o110 : AObj := { cells := #[.pointer (some ⟨G + 20, 0, none⟩), .pointer none, .bool false, .int .i64 0], esz := 0, st := 1, prev := [], ver := 1 }
noncomputable def o111 : AObj := { cells := #[.pointer (some ⟨G + 21, 0, none⟩), .pointer none, .bool false, .int .i64 0], esz := 0, st := 1, prev := [], ver := 1 }
noncomputable def o112 : AObj := { cells := #[.pointer (some ⟨G + 22, 0, none⟩), .pointer none, .bool false, .int .i64 0], esz := 0, st := 1, prev := [], ver := 1 }
noncomputable def o113 : AObj := { cells := #[.pointer (some ⟨G + 23, 0, none⟩), .pointer none, .bool false, .int .i64 0], esz := 0, st := 1, prev := [], ver := 1 }
noncomputable def o114 : AObj := { cells := #[.pointer (some ⟨G + 24, 0, none⟩), .pointer none, .bool false, .int .i64 0], esz := 0, st := 1, prev := [], ver := 1 }
noncomputable def o115 : AObj := { cells := #[.pointer (some ⟨G + 25, 0, none⟩), .pointer none, .bool false, .int .i64 0], esz := 0, st := 1, prev := [], ver := 1 }
noncomputable def o116 : AObj := { cells := #[.pointer (some ⟨G + 26, 0, none⟩), .pointer none, .bool false, .int .i64 0], esz := 0, st := 1, prev := [], ver := 1 }
noncomputable def o117 : AObj := { cells := #[.pointer (some ⟨G + 27, 0, none⟩), .pointer none, .bool false, .int .i64 0], esz := 0, st := 1, prev := [], ver := 1 }
noncomputable def o118 : AObj := { cells := #[.pointer (some ⟨G + 28, 0, none⟩), .pointer none, .bool false, .int .i64 0], esz := 0, st := 1, prev := [], ver := 1 }
noncomputable def o119 : AObj := { cells := #[.pointer (some ⟨G + 29, 0, none⟩), .pointer none, .bool false, .int .i64 0], esz := 0, st := 1, prev := [], ver := 1 }
noncomputable def o120 : AObj := { cells := #[.pointer (some ⟨G + 30, 0, none⟩), .pointer none, .bool false, .int .i64 0], esz := 0, st := 1, prev := [], ver := 1 }
noncomputable def o121 : AObj := { cells := #[.pointer (some ⟨G + 31, 0, none⟩), .pointer none, .bool false, .int .i64 0], esz := 0, st := 1, prev := [], ver := 1 }
noncomputable def o122 : AObj := { cells := #[.pointer (some ⟨G + 32, 0, none⟩), .pointer none, .bool false, .int .i64 0], esz := 0, st := 1, prev := [], ver := 1 }
noncomputable def o123 : AObj := { cells := #[.pointer (some ⟨G + 33, 0, none⟩), .pointer none, .bool false, .int .i64 0], esz := 0, st := 1, prev := [], ver := 1 }
noncomputable def o124 : AObj := { cells := #[.pointer (some ⟨G + 34, 0, none⟩), .pointer none, .bool false, .int .i64 0], esz := 0, st := 1, prev := [], ver := 1 }
noncomputable def o125 : AObj := { cells := #[.pointer (some ⟨G + 35, 0, none⟩), .pointer none, .bool false, .int .i64 0], esz := 0, st := 1, prev := [], ver := 1 }
noncomputable def o126 : AObj := { cells := #[.pointer (some ⟨G + 36, 0, none⟩), .pointer none, .bool false, .int .i64 0], esz := 0, st := 1, prev := [], ver := 1 }
noncomputable def o127 : AObj := { cells := #[.pointer (some ⟨G + 37, 0, none⟩), .pointer none, .bool false, .int .i64 0], esz := 0, st := 1, prev := [], ver := 1 }
noncomputable def o128 : AObj := { cells := #[.pointer (some ⟨G + 38, 0, none⟩), .pointer none, .bool false, .int .i64 0], esz := 0, st := 1, prev := [], ver := 1 }
noncomputable def o129 : AObj := { cells := #[.pointer (some ⟨G + 39, 0, none⟩), .pointer none, .bool false, .int .i64 0], esz := 0, st := 1, prev := [], ver := 1 }
noncomputable def o130 : AObj := { cells := #[.pointer (some ⟨G + 40, 0, none⟩), .pointer none, .bool false, .int .i64 0], esz := 0, st := 1, prev := [], ver := 1 }
noncomputable def o131 : AObj := { cells := #[.pointer (some ⟨G + 41, 0, none⟩), .pointer none, .bool false, .int .i64 0], esz := 0, st := 1, prev := [], ver := 1 }
noncomputable def o132 : AObj := { cells := #[.pointer (some ⟨G + 42, 0, none⟩), .pointer none, .bool false, .int .i64 0], esz := 0, st := 1, prev := [], ver := 1 }
noncomputable def L28 : List AObj := [o95, o96, o97, o98, o99, o5, o6, o7, o100, o49, o101, o102, o103, o104, o105, o106, o107, o108, o109, o110, o111, o112, o113, o114, o115, o116, o117, o118, o119, o120, o121, o122, o123, o124, o125, o126, o127, o128, o129, o130, o131, o132, o28]
noncomputable def K105 : List (Nat × Value) := [(2, .int .i64 1), (4, .int .i64 1), (6, .int .i64 0), (7, .pointer (some ⟨G + 3, 0, none⟩)), (9, .pointer (some ⟨G + 4, 0, none⟩)), (57, .slice (some ⟨G + 7, 0, none⟩) 17 0), (58, .int .i64 17), (59, .int .i64 14), (73, .bool false)]
noncomputable def K106 : List (Nat × Value) := [(2, .int .i64 1), (4, .int .i64 1), (6, .int .i64 0), (7, .pointer (some ⟨G + 3, 0, none⟩)), (9, .pointer (some ⟨G + 4, 0, none⟩)), (57, .slice (some ⟨G + 7, 0, none⟩) 17 0), (58, .int .i64 17), (59, .int .i64 15)]
noncomputable def K107 : List (Nat × Value) := [(2, .int .i64 1), (4, .int .i64 1), (6, .int .i64 0), (7, .pointer (some ⟨G + 3, 0, none⟩)), (9, .pointer (some ⟨G + 4, 0, none⟩)), (57, .slice (some ⟨G + 7, 0, none⟩) 17 0), (58, .int .i64 17), (59, .int .i64 15), (60, .bool true)]
noncomputable def o133 : AObj := { cells := #[.int .i64 1, .int .i64 0, .int .i64 33, .int .u32 0, .slice none 0 0, .bool false], esz := 0, st := 1, prev := [], ver := 1 }
noncomputable def L29 : List AObj := [o95, o96, o97, o98, o99, o5, o6, o7, o100, o49, o101, o102, o103, o104, o105, o106, o107, o108, o109, o110, o111, o112, o113, o114, o115, o116, o117, o118, o119, o120, o121, o122, o123, o124, o125, o126, o127, o128, o129, o130, o131, o132, o28, o133]
noncomputable def K108 : List (Nat × Value) := [(2, .int .i64 1), (4, .int .i64 1), (6, .int .i64 0), (7, .pointer (some ⟨G + 3, 0, none⟩)), (9, .pointer (some ⟨G + 4, 0, none⟩)), (11, .pointer (some ⟨G + 43, 0, none⟩)), (57, .slice (some ⟨G + 7, 0, none⟩) 17 0), (58, .int .i64 17), (59, .int .i64 15)]
noncomputable def kn400 : Known := { ids := [G + 0, G + 1, G + 2, G + 3, G + 4, G + 8, G + 9, G + 10, G + 11, G + 12, G + 13, G + 14, G + 15, G + 16, G + 17, G + 18, G + 19, G + 20, G + 21, G + 22, G + 23, G + 24, G + 25, G + 26, G + 27, G + 28, G + 29, G + 30, G + 31, G + 32, G + 33, G + 34, G + 35, G + 36, G + 37, G + 38, G + 39, G + 40, G + 41, G + 42], objs := L26, args := [.pointer (some ⟨G + 3, 0, none⟩), .pointer (some ⟨G + 4, 0, none⟩)], ans := .bool true }
noncomputable def K109 : List (Nat × Value) := [(2, .int .i64 1), (4, .int .i64 1), (6, .int .i64 0), (7, .pointer (some ⟨G + 3, 0, none⟩)), (9, .pointer (some ⟨G + 4, 0, none⟩)), (57, .slice (some ⟨G + 7, 0, none⟩) 17 0), (58, .int .i64 17), (59, .int .i64 15), (73, .bool false)]
noncomputable def K110 : List (Nat × Value) := [(2, .int .i64 1), (4, .int .i64 1), (6, .int .i64 0), (7, .pointer (some ⟨G + 3, 0, none⟩)), (9, .pointer (some ⟨G + 4, 0, none⟩)), (57, .slice (some ⟨G + 7, 0, none⟩) 17 0), (58, .int .i64 17), (59, .int .i64 16)]
noncomputable def K111 : List (Nat × Value) := [(2, .int .i64 1), (4, .int .i64 1), (6, .int .i64 0), (7, .pointer (some ⟨G + 3, 0, none⟩)), (9, .pointer (some ⟨G + 4, 0, none⟩)), (57, .slice (some ⟨G + 7, 0, none⟩) 17 0), (58, .int .i64 17), (59, .int .i64 16), (60, .bool true)]
noncomputable def L30 : List AObj := [o95, o96, o97, o98, o99, o5, o6, o7, o100, o49, o101, o102, o103, o104, o105, o106, o107, o108, o109, o110, o111, o112, o113, o114, o115, o116, o117, o118, o119, o120, o121, o122, o123, o124, o125, o126, o127, o128, o129, o130, o131, o132, o28, o53]
noncomputable def K112 : List (Nat × Value) := [(2, .int .i64 1), (4, .int .i64 1), (6, .int .i64 0), (7, .pointer (some ⟨G + 3, 0, none⟩)), (9, .pointer (some ⟨G + 4, 0, none⟩)), (11, .pointer (some ⟨G + 43, 0, none⟩)), (57, .slice (some ⟨G + 7, 0, none⟩) 17 0), (58, .int .i64 17), (59, .int .i64 16)]
noncomputable def o134 : AObj := { cells := #[.pointer (some ⟨G + 7, 0, none⟩), .pointer none, .bool true, .int .i64 0], esz := 0, st := 0, prev := [] }
noncomputable def o135 : AObj := { cells := #[.int .i64 4096, .int .i64 6, .pointer (some ⟨G + 2, 0, none⟩)], esz := 0, st := 0, prev := [] }
noncomputable def o136 : AObj := { cells := #[.slice (some ⟨G + 39, 0, none⟩) 2 0, .int .i64 4096, .int .i64 6], esz := 0, st := 0, prev := [] }
noncomputable def o137 : AObj := { cells := #[.pointer (some ⟨G + 8, 0, none⟩), .pointer none, .bool false, .int .i64 0], esz := 0, st := 0, prev := [] }
noncomputable def L31 : List AObj := [o134, o55, o56, o135, o136, o59, o60, o137, o62, o63, o64, o65, o66, o67, o68, o69, o70, o71, o72, o73, o74, o75, o76, o77, o78, o79, o80, o81, o82, o83, o84, o85, o86, o87, o88, o89, o90, o91, o93, o61]
noncomputable def L32 : List AObj := [o134, o55, o56, o135, o136, o59, o60, o137, o62, o63, o64, o65, o66, o67, o68, o69, o70, o71, o72, o73, o74, o75, o76, o77, o78, o79, o80, o81, o82, o83, o84, o85, o86, o87, o88, o89, o90, o91, o93, o61, o94]
noncomputable def kn517 : Known := { ids := [G + 0, G + 1, G + 2, G + 3, G + 4, G + 8, G + 9, G + 11, G + 12, G + 13, G + 14, G + 15, G + 16, G + 17, G + 18, G + 19, G + 20, G + 21, G + 22, G + 23, G + 24, G + 25, G + 26, G + 27, G + 28, G + 29, G + 30, G + 31, G + 32, G + 33, G + 34, G + 35, G + 36, G + 37, G + 38, G + 39, G + 40, G + 41, G + 42, G + 51], objs := L31, args := [.pointer (some ⟨G + 3, 0, none⟩), .pointer (some ⟨G + 4, 0, none⟩)], ans := .bool true }
noncomputable def o138 : AObj := { cells := #[.pointer (some ⟨G + 10, 0, none⟩), .pointer none, .bool true, .int .i64 0], esz := 0, st := 1, prev := [], ver := 5 }
noncomputable def o139 : AObj := { cells := #[.int .i64 4096, .int .i64 6, .pointer (some ⟨G + 2, 0, none⟩)], esz := 0, st := 1, prev := [], ver := 9 }
noncomputable def o140 : AObj := { cells := #[.slice (some ⟨G + 42, 0, none⟩) 2 0, .int .i64 4096, .int .i64 6], esz := 0, st := 1, prev := [], ver := 17 }
noncomputable def o141 : AObj := { cells := #[.slice none 0 0, .slice none 0 0], esz := 1, st := 1, prev := [], ver := 5 }
noncomputable def o142 : AObj := { cells := #[.pointer (some ⟨G + 11, 0, none⟩), .pointer none, .bool false, .int .i64 0], esz := 0, st := 1, prev := [], ver := 1 }
noncomputable def L33 : List AObj := [o138, o96, o97, o139, o140, o5, o6, o7, o141, o49, o142, o102, o103, o104, o105, o106, o107, o108, o109, o110, o111, o112, o113, o114, o115, o116, o117, o118, o119, o120, o121, o122, o123, o124, o125, o126, o127, o128, o129, o130, o131, o28, o101]
noncomputable def K113 : List (Nat × Value) := [(2, .int .i64 1), (4, .int .i64 1), (6, .int .i64 0), (7, .pointer (some ⟨G + 3, 0, none⟩)), (9, .pointer (some ⟨G + 4, 0, none⟩)), (57, .slice (some ⟨G + 7, 0, none⟩) 17 0), (58, .int .i64 17), (59, .int .i64 16), (73, .bool false)]
noncomputable def K114 : List (Nat × Value) := [(2, .int .i64 1), (4, .int .i64 1), (6, .int .i64 0), (7, .pointer (some ⟨G + 3, 0, none⟩)), (9, .pointer (some ⟨G + 4, 0, none⟩)), (57, .slice (some ⟨G + 7, 0, none⟩) 17 0), (58, .int .i64 17), (59, .int .i64 17)]
noncomputable def K115 : List (Nat × Value) := [(2, .int .i64 1), (4, .int .i64 1), (6, .int .i64 0), (7, .pointer (some ⟨G + 3, 0, none⟩)), (9, .pointer (some ⟨G + 4, 0, none⟩)), (57, .slice (some ⟨G + 7, 0, none⟩) 17 0), (58, .int .i64 17), (59, .int .i64 17), (60, .bool false)]
noncomputable def K116 : List (Nat × Value) := [(0, .bool true)]
theorem sh : nav [] B = .seq (nav [0] B) (nav [1] B) := by kernel_rfl
theorem sh1 : nav [1] B = .seq (nav [1, 0] B) (nav [1, 1] B) := by kernel_rfl
theorem sh1_1 : nav [1, 1] B = .seq (nav [1, 1, 0] B) (nav [1, 1, 1] B) := by kernel_rfl
theorem sh1_1_1 : nav [1, 1, 1] B = .seq (nav [1, 1, 1, 0] B) (nav [1, 1, 1, 1] B) := by kernel_rfl
theorem sh1_1_1_1 : nav [1, 1, 1, 1] B = .seq (nav [1, 1, 1, 1, 0] B) (nav [1, 1, 1, 1, 1] B) := by kernel_rfl
theorem sh1_1_1_1_1 : nav [1, 1, 1, 1, 1] B = .seq (nav [1, 1, 1, 1, 1, 0] B) (nav [1, 1, 1, 1, 1, 1] B) := by kernel_rfl
theorem sh1_1_1_1_1_1 : nav [1, 1, 1, 1, 1, 1] B = .seq (nav [1, 1, 1, 1, 1, 1, 0] B) (nav [1, 1, 1, 1, 1, 1, 1] B) := by kernel_rfl
theorem sh1_1_1_1_1_1_1 : nav [1, 1, 1, 1, 1, 1, 1] B = .seq (nav [1, 1, 1, 1, 1, 1, 1, 0] B) (nav [1, 1, 1, 1, 1, 1, 1, 1] B) := by kernel_rfl
theorem sh1_1_1_1_1_1_1_0 : nav [1, 1, 1, 1, 1, 1, 1, 0] B = .seq (nav [1, 1, 1, 1, 1, 1, 1, 0, 0] B) (nav [1, 1, 1, 1, 1, 1, 1, 0, 1] B) := by kernel_rfl
theorem sh1_1_1_1_1_1_1_0_1 : nav [1, 1, 1, 1, 1, 1, 1, 0, 1] B = .block 0 (nav [1, 1, 1, 1, 1, 1, 1, 0, 1, 0] B) := by kernel_rfl
theorem sh1_1_1_1_1_1_1_0_1_0 : nav [1, 1, 1, 1, 1, 1, 1, 0, 1, 0] B = .loop (nav [1, 1, 1, 1, 1, 1, 1, 0, 1, 0, 0] B) := by kernel_rfl
theorem sh1_1_1_1_1_1_1_0_1_0_0 : nav [1, 1, 1, 1, 1, 1, 1, 0, 1, 0, 0] B = .seq (nav [1, 1, 1, 1, 1, 1, 1, 0, 1, 0, 0, 0] B) (nav [1, 1, 1, 1, 1, 1, 1, 0, 1, 0, 0, 1] B) := by kernel_rfl
theorem sh1_1_1_1_1_1_1_0_1_0_0_1 : nav [1, 1, 1, 1, 1, 1, 1, 0, 1, 0, 0, 1] B = .seq (nav [1, 1, 1, 1, 1, 1, 1, 0, 1, 0, 0, 1, 0] B) (nav [1, 1, 1, 1, 1, 1, 1, 0, 1, 0, 0, 1, 1] B) := by kernel_rfl
theorem sh1_1_1_1_1_1_1_0_1_0_0_1_1 : nav [1, 1, 1, 1, 1, 1, 1, 0, 1, 0, 0, 1, 1] B = .seq (nav [1, 1, 1, 1, 1, 1, 1, 0, 1, 0, 0, 1, 1, 0] B) (nav [1, 1, 1, 1, 1, 1, 1, 0, 1, 0, 0, 1, 1, 1] B) := by kernel_rfl
theorem sh1_1_1_1_1_1_1_0_1_0_0_1_1_0 : nav [1, 1, 1, 1, 1, 1, 1, 0, 1, 0, 0, 1, 1, 0] B = .block 1 (nav [1, 1, 1, 1, 1, 1, 1, 0, 1, 0, 0, 1, 1, 0, 0] B) := by kernel_rfl
theorem sh1_1_1_1_1_1_1_0_1_0_0_1_1_0_0 : nav [1, 1, 1, 1, 1, 1, 1, 0, 1, 0, 0, 1, 1, 0, 0] B = .seq (nav [1, 1, 1, 1, 1, 1, 1, 0, 1, 0, 0, 1, 1, 0, 0, 0] B) (nav [1, 1, 1, 1, 1, 1, 1, 0, 1, 0, 0, 1, 1, 0, 0, 1] B) := by kernel_rfl
theorem sh1_1_1_1_1_1_1_0_1_0_0_1_1_0_0_1 : nav [1, 1, 1, 1, 1, 1, 1, 0, 1, 0, 0, 1, 1, 0, 0, 1] B = .seq (nav [1, 1, 1, 1, 1, 1, 1, 0, 1, 0, 0, 1, 1, 0, 0, 1, 0] B) (nav [1, 1, 1, 1, 1, 1, 1, 0, 1, 0, 0, 1, 1, 0, 0, 1, 1] B) := by kernel_rfl
theorem shA18 : nav [] BA18 = .seq (nav [0] BA18) (nav [1] BA18) := by kernel_rfl
theorem shA181 : nav [1] BA18 = .seq (nav [1, 0] BA18) (nav [1, 1] BA18) := by kernel_rfl
theorem shA181_1 : nav [1, 1] BA18 = .seq (nav [1, 1, 0] BA18) (nav [1, 1, 1] BA18) := by kernel_rfl
theorem shA181_1_1 : nav [1, 1, 1] BA18 = .seq (nav [1, 1, 1, 0] BA18) (nav [1, 1, 1, 1] BA18) := by kernel_rfl
theorem shA181_1_1_0 : nav [1, 1, 1, 0] BA18 = .seq (nav [1, 1, 1, 0, 0] BA18) (nav [1, 1, 1, 0, 1] BA18) := by kernel_rfl
theorem shA181_1_1_0_1 : nav [1, 1, 1, 0, 1] BA18 = .block 0 (nav [1, 1, 1, 0, 1, 0] BA18) := by kernel_rfl
theorem shA181_1_1_0_1_0 : nav [1, 1, 1, 0, 1, 0] BA18 = .loop (nav [1, 1, 1, 0, 1, 0, 0] BA18) := by kernel_rfl
theorem shA181_1_1_0_1_0_0 : nav [1, 1, 1, 0, 1, 0, 0] BA18 = .seq (nav [1, 1, 1, 0, 1, 0, 0, 0] BA18) (nav [1, 1, 1, 0, 1, 0, 0, 1] BA18) := by kernel_rfl
theorem shA181_1_1_0_1_0_0_1 : nav [1, 1, 1, 0, 1, 0, 0, 1] BA18 = .seq (nav [1, 1, 1, 0, 1, 0, 0, 1, 0] BA18) (nav [1, 1, 1, 0, 1, 0, 0, 1, 1] BA18) := by kernel_rfl
theorem shA181_1_1_0_1_0_0_1_0 : nav [1, 1, 1, 0, 1, 0, 0, 1, 0] BA18 = .block 1 (nav [1, 1, 1, 0, 1, 0, 0, 1, 0, 0] BA18) := by kernel_rfl
theorem shA181_1_1_0_1_0_0_1_0_0 : nav [1, 1, 1, 0, 1, 0, 0, 1, 0, 0] BA18 = .seq (nav [1, 1, 1, 0, 1, 0, 0, 1, 0, 0, 0] BA18) (nav [1, 1, 1, 0, 1, 0, 0, 1, 0, 0, 1] BA18) := by kernel_rfl
theorem shA181_1_1_0_1_0_0_1_0_0_1 : nav [1, 1, 1, 0, 1, 0, 0, 1, 0, 0, 1] BA18 = .seq (nav [1, 1, 1, 0, 1, 0, 0, 1, 0, 0, 1, 0] BA18) (nav [1, 1, 1, 0, 1, 0, 0, 1, 0, 0, 1, 1] BA18) := by kernel_rfl
theorem shA181_1_1_0_1_0_0_1_0_0_1_1 : nav [1, 1, 1, 0, 1, 0, 0, 1, 0, 0, 1, 1] BA18 = .seq (nav [1, 1, 1, 0, 1, 0, 0, 1, 0, 0, 1, 1, 0] BA18) (nav [1, 1, 1, 0, 1, 0, 0, 1, 0, 0, 1, 1, 1] BA18) := by kernel_rfl
theorem shA181_1_1_0_1_0_0_1_0_0_1_1_0 : nav [1, 1, 1, 0, 1, 0, 0, 1, 0, 0, 1, 1, 0] BA18 = .seq (nav [1, 1, 1, 0, 1, 0, 0, 1, 0, 0, 1, 1, 0, 0] BA18) (nav [1, 1, 1, 0, 1, 0, 0, 1, 0, 0, 1, 1, 0, 1] BA18) := by kernel_rfl
theorem shA181_1_1_0_1_0_0_1_0_0_1_1_0_1 : nav [1, 1, 1, 0, 1, 0, 0, 1, 0, 0, 1, 1, 0, 1] BA18 = .block 2 (nav [1, 1, 1, 0, 1, 0, 0, 1, 0, 0, 1, 1, 0, 1, 0] BA18) := by kernel_rfl
theorem shA181_1_1_0_1_0_0_1_0_0_1_1_0_1_0 : nav [1, 1, 1, 0, 1, 0, 0, 1, 0, 0, 1, 1, 0, 1, 0] BA18 = .loop (nav [1, 1, 1, 0, 1, 0, 0, 1, 0, 0, 1, 1, 0, 1, 0, 0] BA18) := by kernel_rfl
end FLaw
end Go.Proofs.Ytjlieapiedmiiaa
