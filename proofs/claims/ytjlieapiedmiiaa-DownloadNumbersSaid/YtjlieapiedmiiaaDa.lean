/- Chapter 26: DownloadNumbers, a closed sentence, comes out true. The states between the pieces. -/
import Derived.Test.YtjlieapiedmiiaaRows
import Derived.Test.YtjlieapiedmiiaaEvO
namespace Go.Proofs.Ytjlieapiedmiiaa
open Go Go.Ev Go.RowKit
set_option maxRecDepth 100000
namespace DLaw
theorem good : Ev.Good Try.prog := ⟨by kernel_rfl, by kernel_rfl, by kernel_rfl⟩
noncomputable abbrev G : Nat := Try.prog.globals.size
noncomputable abbrev B : Code := bodyOf Try.f6
noncomputable abbrev NT : Nat := Try.f6.ntmps
noncomputable abbrev pc (p : List Nat) (m ks : List Nat) (L : List AObj) (K : List (Nat × Value)) : Option (AExit × List AObj × List (Nat × Value)) := piece Try.prog noEnv 6 5000 G (nav p B) NT m ks L K
abbrev Gs (W : World) (p : List Nat) (L : List AObj) (K : List (Nat × Value)) (e : AExit) (L' : List AObj) (K' : List (Nat × Value)) : Prop := Goes Try.prog W (nav p B) (hk G L) (tk NT K) e (hk G L') (tk NT K')
theorem gs {W : World} {p m ks : List Nat} {L L' : List AObj} {K K' : List (Nat × Value)} {e : AExit} (hok : okCode (nav p B) = true) (h : pc p m ks L K = some (e, L', K')) : Gs W p L K e L' K' :=
  piece_goes noEnv_sound good hok h
noncomputable abbrev BA30 : Code := bodyOf Try.f30
noncomputable abbrev NTA30 : Nat := Try.f30.ntmps
noncomputable abbrev pcA30 (p : List Nat) (m ks : List Nat) (L : List AObj) (K : List (Nat × Value)) : Option (AExit × List AObj × List (Nat × Value)) := piece Try.prog noEnv 30 5000 G (nav p BA30) NTA30 m ks L K
abbrev GsA30 (W : World) (p : List Nat) (L : List AObj) (K : List (Nat × Value)) (e : AExit) (L' : List AObj) (K' : List (Nat × Value)) : Prop := Goes Try.prog W (nav p BA30) (hk G L) (tk NTA30 K) e (hk G L') (tk NTA30 K')
theorem gsA30 {W : World} {p m ks : List Nat} {L L' : List AObj} {K K' : List (Nat × Value)} {e : AExit} (hok : okCode (nav p BA30) = true) (h : pcA30 p m ks L K = some (e, L', K')) : GsA30 W p L K e L' K' :=
  piece_goes noEnv_sound good hok h
noncomputable abbrev pcK30 (l : List Known) (p : List Nat) (m ks : List Nat) (L : List AObj) (K : List (Nat × Value)) : Option (AExit × List AObj × List (Nat × Value)) := piece Try.prog (knownEnv G noEnv 30 l) 6 5000 G (nav p B) NT m ks L K
theorem gsK30 {W : World} {l : List Known} (hl : ∀ k ∈ l, KnownSum Try.prog 30 k) {p m ks : List Nat} {L L' : List AObj} {K K' : List (Nat × Value)} {e : AExit} (hok : okCode (nav p B) = true) (h : pcK30 l p m ks L K = some (e, L', K')) : Gs W p L K e L' K' :=
  piece_goes (knownEnv_sound noEnv_sound hl) good hok h
theorem ksA30 {x : AExit} {K' : List (Nat × Value)} {L' : List AObj} (L : List AObj) (K : List (Nat × Value)) (k : Known) (h1 : k.objs.map readO = L) (h2 : argsK 0 k.args = K) (h3 : Ev.flat k.ans = true) (h4 : Nat.ble k.args.length NTA30 = true) (h5 : x = .ret ∨ x = .normal)
    (h6 : evResults Try.prog (tk NTA30 K') Try.f30.results.toList ⟨hk G L', 0, none, []⟩ = some ([k.ans], ⟨hk G L', 0, none, []⟩)) (hg : ∀ W : World, GsA30 W [] L K x L' K') : KnownSum Try.prog 30 k :=
  ⟨h3, Try.f30, nav [] BA30, Try.func30, by kernel_rfl, by kernel_rfl, Nat.le_of_ble_eq_true (by kernel_rfl), Nat.le_of_ble_eq_true h4, x, hk G L', K', ⟨hk G L', 0, none, []⟩, h5, h6, rfl, fun W => by rw [h1, h2]; exact hg W⟩
theorem none0 {f : FuncId} : ∀ x ∈ ([] : List Known), KnownSum Try.prog f x := fun _ h => nomatch h
theorem more {f : FuncId} {k : Known} {l : List Known} (h : KnownSum Try.prog f k) (hl : ∀ x ∈ l, KnownSum Try.prog f x) : ∀ x ∈ k :: l, KnownSum Try.prog f x := fun x hx => by
  rcases List.mem_cons.1 hx with rfl | hx
  · exact h
  · exact hl x hx
noncomputable def L0 : List AObj := []
noncomputable def K0 : List (Nat × Value) := []
noncomputable def K1 : List (Nat × Value) := [(2, .int .i64 1)]
noncomputable def o0 : AObj := { cells := #[.int .u32 1, .int .i64 0, .slice none 0 0], esz := 3, st := 1, prev := [] }
noncomputable def L1 : List AObj := [o0]
noncomputable def K2 : List (Nat × Value) := [(2, .int .i64 1), (3, .slice (some ⟨G + 0, 0, none⟩) 1 0)]
noncomputable def o1 : AObj := { cells := #[.int .i64 1, .int .i64 16], esz := 2, st := 1, prev := [] }
noncomputable def o2 : AObj := { cells := #[.int .i64 2, .int .i64 16], esz := 2, st := 1, prev := [] }
noncomputable def o3 : AObj := { cells := #[.int .i64 3, .int .i64 16], esz := 2, st := 1, prev := [] }
noncomputable def o4 : AObj := { cells := #[.int .u32 167772160, .int .i64 8, .slice (some ⟨G + 2, 0, none⟩) 1 0, .int .u32 167772160, .int .i64 9, .slice (some ⟨G + 1, 0, none⟩) 1 0, .int .u32 169869312, .int .i64 11, .slice (some ⟨G + 3, 0, none⟩) 1 0, .int .u32 170131456, .int .i64 14, .slice none 0 0], esz := 3, st := 1, prev := [] }
noncomputable def L2 : List AObj := [o0, o1, o2, o3, o4]
noncomputable def K3 : List (Nat × Value) := [(2, .int .i64 1), (3, .slice (some ⟨G + 0, 0, none⟩) 1 0), (4, .slice (some ⟨G + 4, 0, none⟩) 4 0)]
noncomputable def o5 : AObj := { cells := #[.int .u32 167772160, .int .i64 9, .slice (some ⟨G + 5, 0, none⟩) 1 0, .int .u32 169869312, .int .i64 11, .slice (some ⟨G + 6, 0, none⟩) 1 0, .int .u32 169869312, .int .i64 14, .slice (some ⟨G + 7, 0, none⟩) 1 0], esz := 3, st := 1, prev := [] }
noncomputable def L3 : List AObj := [o0, o1, o2, o3, o4, o2, o3, o1, o5]
noncomputable def K4 : List (Nat × Value) := [(2, .int .i64 1), (3, .slice (some ⟨G + 0, 0, none⟩) 1 0), (4, .slice (some ⟨G + 4, 0, none⟩) 4 0), (5, .slice (some ⟨G + 8, 0, none⟩) 3 0)]
noncomputable def o6 : AObj := { cells := #[.pointer (some ⟨G + 14, 0, none⟩), .pointer none, .bool false, .int .i64 0], esz := 0, st := 1, prev := [], ver := 1 }
noncomputable def o7 : AObj := { cells := #[.pointer (some ⟨G + 9, 0, none⟩), .int .i64 4], esz := 0, st := 1, prev := [], ver := 4 }
noncomputable def o8 : AObj := { cells := #[.pointer (some ⟨G + 10, 0, none⟩), .slice (some ⟨G + 27, 0, none⟩) 4 0, .slice none 0 0], esz := 0, st := 1, prev := [], ver := 4 }
noncomputable def o9 : AObj := { cells := #[.int .i64 4, .int .i64 4, .pointer (some ⟨G + 11, 0, none⟩)], esz := 0, st := 1, prev := [], ver := 5 }
noncomputable def o10 : AObj := { cells := #[.pointer (some ⟨G + 15, 0, none⟩), .pointer none, .bool false, .int .i64 0], esz := 0, st := 1, prev := [], ver := 1 }
noncomputable def o11 : AObj := { cells := #[.pointer (some ⟨G + 16, 0, none⟩), .pointer none, .bool false, .int .i64 0], esz := 0, st := 1, prev := [], ver := 1 }
noncomputable def o12 : AObj := { cells := #[.pointer (some ⟨G + 17, 0, none⟩), .pointer none, .bool false, .int .i64 0], esz := 0, st := 1, prev := [], ver := 1 }
noncomputable def o13 : AObj := { cells := #[.pointer none, .pointer (some ⟨G + 18, 0, none⟩), .bool false, .int .i64 0], esz := 0, st := 1, prev := [], ver := 1 }
noncomputable def o14 : AObj := { cells := #[.pointer (some ⟨G + 19, 0, none⟩), .pointer none, .bool false, .int .i64 0], esz := 0, st := 1, prev := [], ver := 1 }
noncomputable def o15 : AObj := { cells := #[.pointer none, .pointer (some ⟨G + 20, 0, none⟩), .bool false, .int .i64 0], esz := 0, st := 1, prev := [], ver := 1 }
noncomputable def o16 : AObj := { cells := #[.pointer (some ⟨G + 21, 0, none⟩), .pointer none, .bool false, .int .i64 0], esz := 0, st := 1, prev := [], ver := 1 }
noncomputable def o17 : AObj := { cells := #[.pointer (some ⟨G + 23, 0, none⟩), .pointer none, .bool true, .int .i64 0], esz := 0, st := 1, prev := [], ver := 3 }
noncomputable def o18 : AObj := { cells := #[.pointer (some ⟨G + 25, 0, none⟩), .pointer none, .bool true, .int .i64 1], esz := 0, st := 1, prev := [], ver := 3 }
noncomputable def o19 : AObj := { cells := #[.pointer none, .pointer (some ⟨G + 26, 0, none⟩), .bool false, .int .i64 0], esz := 0, st := 1, prev := [], ver := 1 }
noncomputable def o20 : AObj := { cells := #[.pointer (some ⟨G + 28, 0, none⟩), .pointer none, .bool true, .int .i64 2], esz := 0, st := 1, prev := [], ver := 3 }
noncomputable def o21 : AObj := { cells := #[.slice (some ⟨G + 13, 0, none⟩) 1 0, .slice (some ⟨G + 22, 0, none⟩) 1 0, .slice (some ⟨G + 24, 0, none⟩) 1 0, .slice none 0 0], esz := 1, st := 1, prev := [], ver := 1 }
noncomputable def o22 : AObj := { cells := #[.pointer (some ⟨G + 29, 0, none⟩), .pointer none, .bool false, .int .i64 0], esz := 0, st := 1, prev := [], ver := 1 }
noncomputable def o23 : AObj := { cells := #[.pointer none, .pointer (some ⟨G + 30, 0, none⟩), .bool false, .int .i64 0], esz := 0, st := 1, prev := [], ver := 1 }
noncomputable def o24 : AObj := { cells := #[.pointer none, .pointer none, .bool true, .int .i64 3], esz := 0, st := 1, prev := [], ver := 2 }
noncomputable def L4 : List AObj := [o0, o1, o2, o3, o4, o2, o3, o1, o5, o6, o7, o8, o9, o2, o10, o11, o12, o13, o14, o15, o16, o17, o1, o18, o3, o19, o20, o21, o22, o23, o24]
noncomputable def K5 : List (Nat × Value) := [(2, .int .i64 1), (3, .slice (some ⟨G + 0, 0, none⟩) 1 0), (4, .slice (some ⟨G + 4, 0, none⟩) 4 0), (5, .slice (some ⟨G + 8, 0, none⟩) 3 0), (6, .pointer (some ⟨G + 12, 0, none⟩))]
noncomputable def o25 : AObj := { cells := #[.pointer (some ⟨G + 12, 0, none⟩), .slice none 0 0, .bool false], esz := 0, st := 1, prev := [] }
noncomputable def L5 : List AObj := [o0, o1, o2, o3, o4, o2, o3, o1, o5, o6, o7, o8, o9, o2, o10, o11, o12, o13, o14, o15, o16, o17, o1, o18, o3, o19, o20, o21, o22, o23, o24, o25]
noncomputable def K6 : List (Nat × Value) := [(2, .int .i64 1), (3, .slice (some ⟨G + 0, 0, none⟩) 1 0), (4, .slice (some ⟨G + 4, 0, none⟩) 4 0), (5, .slice (some ⟨G + 8, 0, none⟩) 3 0), (6, .pointer (some ⟨G + 12, 0, none⟩)), (7, .pointer (some ⟨G + 31, 0, none⟩)), (8, .int .i64 0)]
noncomputable def K7 : List (Nat × Value) := [(2, .int .i64 1), (3, .slice (some ⟨G + 0, 0, none⟩) 1 0), (4, .slice (some ⟨G + 4, 0, none⟩) 4 0), (5, .slice (some ⟨G + 8, 0, none⟩) 3 0), (6, .pointer (some ⟨G + 12, 0, none⟩)), (7, .pointer (some ⟨G + 31, 0, none⟩))]
noncomputable def K8 : List (Nat × Value) := [(2, .int .i64 1), (3, .slice (some ⟨G + 0, 0, none⟩) 1 0), (4, .slice (some ⟨G + 4, 0, none⟩) 4 0), (5, .slice (some ⟨G + 8, 0, none⟩) 3 0), (6, .pointer (some ⟨G + 12, 0, none⟩)), (7, .pointer (some ⟨G + 31, 0, none⟩)), (9, .int .i64 12)]
noncomputable def o26 : AObj := { cells := #[.pointer (some ⟨G + 12, 0, none⟩), .slice (some ⟨G + 34, 0, none⟩) 4 0, .bool false], esz := 0, st := 1, prev := [], ver := 2 }
noncomputable def o27 : AObj := { cells := #[.bool false, .int .u32 169869312, .int .i64 14, .slice (some ⟨G + 33, 0, none⟩) 1 0, .bool false, .int .u32 167772160, .int .i64 9, .slice (some ⟨G + 32, 0, none⟩) 1 0, .bool true, .int .u32 167772160, .int .i64 8, .slice none 0 0, .bool true, .int .u32 170131456, .int .i64 14, .slice none 0 0], esz := 4, st := 1, prev := [] }
noncomputable def L6 : List AObj := [o0, o1, o2, o3, o4, o2, o3, o1, o5, o6, o7, o8, o9, o2, o10, o11, o12, o13, o14, o15, o16, o17, o1, o18, o3, o19, o20, o21, o22, o23, o24, o26, o2, o1, o27]
noncomputable def K9 : List (Nat × Value) := [(2, .int .i64 1), (3, .slice (some ⟨G + 0, 0, none⟩) 1 0), (4, .slice (some ⟨G + 4, 0, none⟩) 4 0), (5, .slice (some ⟨G + 8, 0, none⟩) 3 0), (6, .pointer (some ⟨G + 12, 0, none⟩)), (7, .pointer (some ⟨G + 31, 0, none⟩)), (9, .int .i64 12), (10, .int .i64 0)]
noncomputable def K10 : List (Nat × Value) := [(2, .int .i64 1), (3, .slice (some ⟨G + 0, 0, none⟩) 1 0), (4, .slice (some ⟨G + 4, 0, none⟩) 4 0), (5, .slice (some ⟨G + 8, 0, none⟩) 3 0), (6, .pointer (some ⟨G + 12, 0, none⟩)), (7, .pointer (some ⟨G + 31, 0, none⟩)), (9, .int .i64 12), (10, .int .i64 0), (11, .int .i64 4)]
noncomputable def o28 : AObj := { cells := #[.pointer (some ⟨G + 12, 0, none⟩), .slice (some ⟨G + 34, 0, none⟩) 4 0, .bool true], esz := 0, st := 1, prev := [], ver := 3 }
noncomputable def o29 : AObj := { cells := #[.bool false, .int .u32 169869312, .int .i64 14, .slice (some ⟨G + 35, 0, none⟩) 1 0], esz := 0, st := 1, prev := [], ver := 1 }
noncomputable def L7 : List AObj := [o0, o1, o2, o3, o4, o2, o3, o1, o5, o6, o7, o8, o9, o2, o10, o11, o12, o13, o14, o15, o16, o17, o1, o18, o3, o19, o20, o21, o22, o23, o24, o28, o2, o1, o27, o1, o29]
noncomputable def K11 : List (Nat × Value) := [(2, .int .i64 1), (3, .slice (some ⟨G + 0, 0, none⟩) 1 0), (4, .slice (some ⟨G + 4, 0, none⟩) 4 0), (5, .slice (some ⟨G + 8, 0, none⟩) 3 0), (6, .pointer (some ⟨G + 12, 0, none⟩)), (7, .pointer (some ⟨G + 31, 0, none⟩)), (9, .int .i64 12), (10, .int .i64 0), (11, .int .i64 4), (12, .pointer (some ⟨G + 36, 0, none⟩)), (13, .bool false), (14, .int .i64 13)]
noncomputable def o30 : AObj := { cells := #[.pointer (some ⟨G + 12, 0, none⟩), .slice (some ⟨G + 34, 0, none⟩) 4 0, .bool true], esz := 0, st := 1, prev := [], ver := 4 }
noncomputable def o31 : AObj := { cells := #[.bool false, .int .u32 169869312, .int .i64 14, .slice (some ⟨G + 37, 0, none⟩) 1 0], esz := 0, st := 1, prev := [], ver := 1 }
noncomputable def L8 : List AObj := [o0, o1, o2, o3, o4, o2, o3, o1, o5, o6, o7, o8, o9, o2, o10, o11, o12, o13, o14, o15, o16, o17, o1, o18, o3, o19, o20, o21, o22, o23, o24, o30, o2, o1, o27, o1, o29, o1, o31]
noncomputable def K12 : List (Nat × Value) := [(2, .int .i64 1), (3, .slice (some ⟨G + 0, 0, none⟩) 1 0), (4, .slice (some ⟨G + 4, 0, none⟩) 4 0), (5, .slice (some ⟨G + 8, 0, none⟩) 3 0), (6, .pointer (some ⟨G + 12, 0, none⟩)), (7, .pointer (some ⟨G + 31, 0, none⟩)), (9, .int .i64 12), (10, .int .i64 0), (11, .int .i64 4), (12, .pointer (some ⟨G + 36, 0, none⟩)), (13, .bool false), (14, .int .i64 13), (15, .pointer (some ⟨G + 38, 0, none⟩)), (16, .bool false), (17, .int .i64 13)]
noncomputable def L9 : List AObj := [o0, o1, o2, o3, o4, o2, o3, o1, o5, o6, o7, o8, o9, o2, o10, o11, o12, o13, o14, o15, o16, o17, o1, o18, o3, o19, o20, o21, o22, o23, o24, o30, o2, o1, o27]
noncomputable def o32 : AObj := { cells := #[.int .i64 50, .int .i64 4, .pointer (some ⟨G + 11, 0, none⟩)], esz := 0, st := 1, prev := [], ver := 6 }
noncomputable def L10 : List AObj := [o0, o1, o2, o3, o4, o2, o3, o1, o5, o6, o7, o8, o32, o2, o10, o11, o12, o13, o14, o15, o16, o17, o1, o18, o3, o19, o20, o21, o22, o23, o24, o30, o2, o1, o27]
noncomputable def K13 : List (Nat × Value) := [(2, .int .i64 1), (3, .slice (some ⟨G + 0, 0, none⟩) 1 0), (4, .slice (some ⟨G + 4, 0, none⟩) 4 0), (5, .slice (some ⟨G + 8, 0, none⟩) 3 0), (6, .pointer (some ⟨G + 12, 0, none⟩)), (7, .pointer (some ⟨G + 31, 0, none⟩)), (9, .int .i64 12), (10, .int .i64 0), (11, .int .i64 4), (18, .int .i64 0)]
noncomputable def o33 : AObj := { cells := #[.pointer (some ⟨G + 9, 0, none⟩), .int .i64 5], esz := 0, st := 1, prev := [], ver := 5 }
noncomputable def o34 : AObj := { cells := #[.pointer (some ⟨G + 10, 0, none⟩), .slice (some ⟨G + 35, 0, none⟩) 5 0, .slice none 0 0], esz := 0, st := 1, prev := [], ver := 5 }
noncomputable def o35 : AObj := { cells := #[.int .i64 50, .int .i64 5, .pointer (some ⟨G + 11, 0, none⟩)], esz := 0, st := 1, prev := [], ver := 7 }
noncomputable def o36 : AObj := { cells := #[.pointer (some ⟨G + 27, 0, none⟩), .pointer none, .bool true, .int .i64 2], esz := 0, st := 1, prev := [], ver := 3 }
noncomputable def o37 : AObj := { cells := #[.pointer (some ⟨G + 28, 0, none⟩), .pointer none, .bool false, .int .i64 0], esz := 0, st := 1, prev := [], ver := 1 }
noncomputable def o38 : AObj := { cells := #[.pointer (some ⟨G + 36, 0, none⟩), .pointer (some ⟨G + 29, 0, none⟩), .bool false, .int .i64 0], esz := 0, st := 1, prev := [], ver := 2 }
noncomputable def o39 : AObj := { cells := #[.pointer (some ⟨G + 12, 0, none⟩), .slice (some ⟨G + 33, 4, none⟩) 3 0, .bool false], esz := 0, st := 1, prev := [], ver := 6 }
noncomputable def o40 : AObj := { cells := #[.bool false, .int .u32 169869312, .int .i64 14, .slice (some ⟨G + 32, 0, none⟩) 1 0, .bool false, .int .u32 167772160, .int .i64 9, .slice (some ⟨G + 31, 0, none⟩) 1 0, .bool true, .int .u32 167772160, .int .i64 8, .slice none 0 0, .bool true, .int .u32 170131456, .int .i64 14, .slice none 0 0], esz := 4, st := 1, prev := [] }
noncomputable def o41 : AObj := { cells := #[.slice (some ⟨G + 13, 0, none⟩) 1 0, .slice (some ⟨G + 22, 0, none⟩) 1 0, .slice (some ⟨G + 24, 0, none⟩) 1 0, .slice none 0 0, .slice (some ⟨G + 34, 0, none⟩) 1 0], esz := 1, st := 1, prev := [], ver := 1 }
noncomputable def o42 : AObj := { cells := #[.pointer none, .pointer none, .bool true, .int .i64 4], esz := 0, st := 1, prev := [], ver := 2 }
noncomputable def L11 : List AObj := [o0, o1, o2, o3, o4, o2, o3, o1, o5, o6, o33, o34, o35, o2, o10, o11, o12, o13, o14, o15, o16, o17, o1, o18, o3, o19, o36, o37, o38, o24, o39, o2, o1, o40, o1, o41, o42]
noncomputable def K14 : List (Nat × Value) := [(2, .int .i64 1), (3, .slice (some ⟨G + 0, 0, none⟩) 1 0), (4, .slice (some ⟨G + 4, 0, none⟩) 4 0), (5, .slice (some ⟨G + 8, 0, none⟩) 3 0), (6, .pointer (some ⟨G + 12, 0, none⟩)), (7, .pointer (some ⟨G + 30, 0, none⟩)), (9, .int .i64 12), (10, .int .i64 0), (11, .int .i64 4), (18, .int .i64 1)]
noncomputable def o43 : AObj := { cells := #[.pointer (some ⟨G + 10, 0, none⟩), .slice (some ⟨G + 34, 0, none⟩) 5 0, .slice none 0 0], esz := 0, st := 1, prev := [], ver := 5 }
noncomputable def o44 : AObj := { cells := #[.int .i64 50, .int .i64 6, .pointer (some ⟨G + 11, 0, none⟩)], esz := 0, st := 1, prev := [], ver := 8 }
noncomputable def o45 : AObj := { cells := #[.pointer (some ⟨G + 22, 0, none⟩), .pointer none, .bool true, .int .i64 0], esz := 0, st := 1, prev := [], ver := 3 }
noncomputable def o46 : AObj := { cells := #[.pointer (some ⟨G + 24, 0, none⟩), .pointer none, .bool true, .int .i64 1], esz := 0, st := 1, prev := [], ver := 3 }
noncomputable def o47 : AObj := { cells := #[.pointer none, .pointer (some ⟨G + 25, 0, none⟩), .bool false, .int .i64 0], esz := 0, st := 1, prev := [], ver := 1 }
noncomputable def o48 : AObj := { cells := #[.pointer (some ⟨G + 26, 0, none⟩), .pointer none, .bool true, .int .i64 2], esz := 0, st := 1, prev := [], ver := 3 }
noncomputable def o49 : AObj := { cells := #[.pointer (some ⟨G + 27, 0, none⟩), .pointer none, .bool false, .int .i64 0], esz := 0, st := 1, prev := [], ver := 1 }
noncomputable def o50 : AObj := { cells := #[.pointer (some ⟨G + 35, 0, none⟩), .pointer (some ⟨G + 28, 0, none⟩), .bool false, .int .i64 0], esz := 0, st := 1, prev := [], ver := 2 }
noncomputable def o51 : AObj := { cells := #[.pointer (some ⟨G + 12, 0, none⟩), .slice (some ⟨G + 32, 8, none⟩) 2 0, .bool false], esz := 0, st := 1, prev := [], ver := 8 }
noncomputable def o52 : AObj := { cells := #[.bool false, .int .u32 169869312, .int .i64 14, .slice (some ⟨G + 31, 0, none⟩) 1 0, .bool false, .int .u32 167772160, .int .i64 9, .slice (some ⟨G + 30, 0, none⟩) 1 0, .bool true, .int .u32 167772160, .int .i64 8, .slice none 0 0, .bool true, .int .u32 170131456, .int .i64 14, .slice none 0 0], esz := 4, st := 1, prev := [] }
noncomputable def o53 : AObj := { cells := #[.slice (some ⟨G + 13, 0, none⟩) 1 0, .slice (some ⟨G + 36, 0, none⟩) 1 0, .slice (some ⟨G + 23, 0, none⟩) 1 0, .slice none 0 0, .slice (some ⟨G + 33, 0, none⟩) 1 0], esz := 1, st := 1, prev := [], ver := 2 }
noncomputable def L12 : List AObj := [o0, o1, o2, o3, o4, o2, o3, o1, o5, o6, o33, o43, o44, o2, o10, o11, o12, o13, o14, o15, o16, o45, o46, o3, o47, o48, o49, o50, o24, o51, o2, o1, o52, o1, o53, o42, o2]
noncomputable def K15 : List (Nat × Value) := [(2, .int .i64 1), (3, .slice (some ⟨G + 0, 0, none⟩) 1 0), (4, .slice (some ⟨G + 4, 0, none⟩) 4 0), (5, .slice (some ⟨G + 8, 0, none⟩) 3 0), (6, .pointer (some ⟨G + 12, 0, none⟩)), (7, .pointer (some ⟨G + 29, 0, none⟩)), (9, .int .i64 12), (10, .int .i64 0), (11, .int .i64 4), (18, .int .i64 2)]
noncomputable def o54 : AObj := { cells := #[.pointer (some ⟨G + 13, 0, none⟩), .pointer none, .bool false, .int .i64 0], esz := 0, st := 1, prev := [], ver := 1 }
noncomputable def o55 : AObj := { cells := #[.pointer (some ⟨G + 9, 0, none⟩), .int .i64 4], esz := 0, st := 1, prev := [], ver := 6 }
noncomputable def o56 : AObj := { cells := #[.pointer (some ⟨G + 10, 0, none⟩), .slice (some ⟨G + 33, 0, none⟩) 5 0, .slice (some ⟨G + 36, 0, none⟩) 1 0], esz := 0, st := 1, prev := [], ver := 6 }
noncomputable def o57 : AObj := { cells := #[.int .i64 50, .int .i64 7, .pointer (some ⟨G + 11, 0, none⟩)], esz := 0, st := 1, prev := [], ver := 9 }
noncomputable def o58 : AObj := { cells := #[.pointer none, .pointer (some ⟨G + 17, 0, none⟩), .bool false, .int .i64 0], esz := 0, st := 1, prev := [], ver := 1 }
noncomputable def o59 : AObj := { cells := #[.pointer (some ⟨G + 18, 0, none⟩), .pointer none, .bool false, .int .i64 0], esz := 0, st := 1, prev := [], ver := 1 }
noncomputable def o60 : AObj := { cells := #[.pointer none, .pointer (some ⟨G + 19, 0, none⟩), .bool false, .int .i64 0], esz := 0, st := 1, prev := [], ver := 1 }
noncomputable def o61 : AObj := { cells := #[.pointer (some ⟨G + 20, 0, none⟩), .pointer none, .bool false, .int .i64 0], esz := 0, st := 1, prev := [], ver := 1 }
noncomputable def o62 : AObj := { cells := #[.pointer (some ⟨G + 21, 0, none⟩), .pointer none, .bool false, .int .i64 0], esz := 0, st := 1, prev := [], ver := 5 }
noncomputable def o63 : AObj := { cells := #[.pointer (some ⟨G + 23, 0, none⟩), .pointer none, .bool true, .int .i64 1], esz := 0, st := 1, prev := [], ver := 3 }
noncomputable def o64 : AObj := { cells := #[.pointer none, .pointer (some ⟨G + 24, 0, none⟩), .bool false, .int .i64 0], esz := 0, st := 1, prev := [], ver := 1 }
noncomputable def o65 : AObj := { cells := #[.pointer (some ⟨G + 25, 0, none⟩), .pointer none, .bool true, .int .i64 2], esz := 0, st := 1, prev := [], ver := 3 }
noncomputable def o66 : AObj := { cells := #[.pointer (some ⟨G + 26, 0, none⟩), .pointer none, .bool false, .int .i64 0], esz := 0, st := 1, prev := [], ver := 1 }
noncomputable def o67 : AObj := { cells := #[.pointer (some ⟨G + 34, 0, none⟩), .pointer (some ⟨G + 27, 0, none⟩), .bool false, .int .i64 0], esz := 0, st := 1, prev := [], ver := 2 }
noncomputable def o68 : AObj := { cells := #[.pointer (some ⟨G + 12, 0, none⟩), .slice (some ⟨G + 31, 12, none⟩) 1 0, .bool false], esz := 0, st := 1, prev := [], ver := 10 }
noncomputable def o69 : AObj := { cells := #[.bool false, .int .u32 169869312, .int .i64 14, .slice (some ⟨G + 30, 0, none⟩) 1 0, .bool false, .int .u32 167772160, .int .i64 9, .slice (some ⟨G + 29, 0, none⟩) 1 0, .bool true, .int .u32 167772160, .int .i64 8, .slice none 0 0, .bool true, .int .u32 170131456, .int .i64 14, .slice none 0 0], esz := 4, st := 1, prev := [] }
noncomputable def o70 : AObj := { cells := #[.slice none 0 0, .slice (some ⟨G + 35, 0, none⟩) 1 0, .slice (some ⟨G + 22, 0, none⟩) 1 0, .slice none 0 0, .slice (some ⟨G + 32, 0, none⟩) 1 0], esz := 1, st := 1, prev := [], ver := 3 }
noncomputable def o71 : AObj := { cells := #[.int .i64 0], esz := 1, st := 1, prev := [] }
noncomputable def L13 : List AObj := [o0, o1, o2, o3, o4, o2, o3, o1, o5, o54, o55, o56, o57, o6, o10, o11, o58, o59, o60, o61, o62, o63, o3, o64, o65, o66, o67, o24, o68, o2, o1, o69, o1, o70, o42, o2, o71]
noncomputable def K16 : List (Nat × Value) := [(2, .int .i64 1), (3, .slice (some ⟨G + 0, 0, none⟩) 1 0), (4, .slice (some ⟨G + 4, 0, none⟩) 4 0), (5, .slice (some ⟨G + 8, 0, none⟩) 3 0), (6, .pointer (some ⟨G + 12, 0, none⟩)), (7, .pointer (some ⟨G + 28, 0, none⟩)), (9, .int .i64 12), (10, .int .i64 0), (11, .int .i64 4), (18, .int .i64 3)]
noncomputable def o72 : AObj := { cells := #[.pointer (some ⟨G + 9, 0, none⟩), .int .i64 3], esz := 0, st := 1, prev := [], ver := 7 }
noncomputable def o73 : AObj := { cells := #[.pointer (some ⟨G + 10, 0, none⟩), .slice (some ⟨G + 32, 0, none⟩) 5 0, .slice (some ⟨G + 35, 0, none⟩) 2 0], esz := 0, st := 1, prev := [], ver := 7 }
noncomputable def o74 : AObj := { cells := #[.int .i64 50, .int .i64 8, .pointer (some ⟨G + 11, 0, none⟩)], esz := 0, st := 1, prev := [], ver := 10 }
noncomputable def o75 : AObj := { cells := #[.pointer (some ⟨G + 33, 0, none⟩), .pointer none, .bool false, .int .i64 0], esz := 0, st := 1, prev := [], ver := 3 }
noncomputable def o76 : AObj := { cells := #[.pointer (some ⟨G + 12, 0, none⟩), .slice (some ⟨G + 30, 16, none⟩) 0 0, .bool false], esz := 0, st := 1, prev := [], ver := 12 }
noncomputable def o77 : AObj := { cells := #[.bool false, .int .u32 169869312, .int .i64 14, .slice (some ⟨G + 29, 0, none⟩) 1 0, .bool false, .int .u32 167772160, .int .i64 9, .slice (some ⟨G + 28, 0, none⟩) 1 0, .bool true, .int .u32 167772160, .int .i64 8, .slice none 0 0, .bool true, .int .u32 170131456, .int .i64 14, .slice none 0 0], esz := 4, st := 1, prev := [] }
noncomputable def o78 : AObj := { cells := #[.slice none 0 0, .slice (some ⟨G + 34, 0, none⟩) 1 0, .slice (some ⟨G + 22, 0, none⟩) 1 0, .slice none 0 0, .slice (some ⟨G + 31, 0, none⟩) 1 0], esz := 1, st := 1, prev := [], ver := 4 }
noncomputable def o79 : AObj := { cells := #[.int .i64 0, .int .i64 3], esz := 1, st := 1, prev := [] }
noncomputable def L14 : List AObj := [o0, o1, o2, o3, o4, o2, o3, o1, o5, o54, o72, o73, o74, o6, o10, o11, o58, o59, o60, o61, o62, o63, o3, o64, o65, o66, o75, o76, o2, o1, o77, o1, o78, o42, o2, o79]
noncomputable def K17 : List (Nat × Value) := [(2, .int .i64 1), (3, .slice (some ⟨G + 0, 0, none⟩) 1 0), (4, .slice (some ⟨G + 4, 0, none⟩) 4 0), (5, .slice (some ⟨G + 8, 0, none⟩) 3 0), (6, .pointer (some ⟨G + 12, 0, none⟩)), (7, .pointer (some ⟨G + 27, 0, none⟩)), (9, .int .i64 12), (10, .int .i64 0), (11, .int .i64 4), (18, .int .i64 4)]
noncomputable def K18 : List (Nat × Value) := [(2, .int .i64 1), (3, .slice (some ⟨G + 0, 0, none⟩) 1 0), (4, .slice (some ⟨G + 4, 0, none⟩) 4 0), (5, .slice (some ⟨G + 8, 0, none⟩) 3 0), (6, .pointer (some ⟨G + 12, 0, none⟩)), (7, .pointer (some ⟨G + 27, 0, none⟩)), (9, .int .i64 12), (10, .int .i64 0)]
noncomputable def o80 : AObj := { cells := #[.pointer (some ⟨G + 10, 0, none⟩), .slice (some ⟨G + 28, 0, none⟩) 5 0, .slice (some ⟨G + 31, 0, none⟩) 2 0], esz := 0, st := 1, prev := [], ver := 7 }
noncomputable def o81 : AObj := { cells := #[.pointer (some ⟨G + 29, 0, none⟩), .pointer none, .bool false, .int .i64 0], esz := 0, st := 1, prev := [], ver := 3 }
noncomputable def o82 : AObj := { cells := #[.slice none 0 0, .slice (some ⟨G + 30, 0, none⟩) 1 0, .slice (some ⟨G + 22, 0, none⟩) 1 0, .slice none 0 0, .slice (some ⟨G + 27, 0, none⟩) 1 0], esz := 1, st := 1, prev := [], ver := 4 }
noncomputable def L15 : List AObj := [o0, o1, o2, o3, o4, o2, o3, o1, o5, o54, o72, o80, o74, o6, o10, o11, o58, o59, o60, o61, o62, o63, o3, o64, o65, o66, o81, o1, o82, o42, o2, o79]
noncomputable def K19 : List (Nat × Value) := [(2, .int .i64 1), (3, .slice (some ⟨G + 0, 0, none⟩) 1 0), (4, .slice (some ⟨G + 4, 0, none⟩) 4 0), (5, .slice (some ⟨G + 8, 0, none⟩) 3 0), (6, .pointer (some ⟨G + 12, 0, none⟩)), (9, .int .i64 12), (10, .int .i64 0), (23, .bool false), (24, .int .i64 0)]
noncomputable def o83 : AObj := { cells := #[.int .i64 1, .int .i64 16], esz := 2, st := 0, prev := [] }
noncomputable def o84 : AObj := { cells := #[.int .i64 2, .int .i64 16], esz := 2, st := 0, prev := [] }
noncomputable def o85 : AObj := { cells := #[.int .i64 3, .int .i64 16], esz := 2, st := 0, prev := [] }
noncomputable def o86 : AObj := { cells := #[.int .u32 167772160, .int .i64 8, .slice (some ⟨G + 1, 0, none⟩) 1 0, .int .u32 167772160, .int .i64 9, .slice (some ⟨G + 0, 0, none⟩) 1 0, .int .u32 169869312, .int .i64 11, .slice (some ⟨G + 2, 0, none⟩) 1 0, .int .u32 170131456, .int .i64 14, .slice none 0 0], esz := 3, st := 0, prev := [] }
noncomputable def L16 : List AObj := [o83, o84, o85, o86]
noncomputable def K20 : List (Nat × Value) := [(0, .slice (some ⟨G + 3, 0, none⟩) 4 0), (1, .slice (some ⟨G + 3, 0, none⟩) 4 0)]
noncomputable def K21 : List (Nat × Value) := [(0, .slice (some ⟨G + 3, 0, none⟩) 4 0), (1, .slice (some ⟨G + 3, 0, none⟩) 4 0), (5, .slice none 0 0), (6, .int .i64 0)]
noncomputable def K22 : List (Nat × Value) := [(5, .slice none 0 0), (6, .int .i64 0), (7, .slice none 0 0), (8, .int .i64 0)]
noncomputable def K23 : List (Nat × Value) := [(5, .slice none 0 0), (7, .slice none 0 0)]
noncomputable def K24 : List (Nat × Value) := [(5, .slice none 0 0), (7, .slice none 0 0), (9, .int .i64 0)]
noncomputable def K25 : List (Nat × Value) := [(4, .bool true)]
noncomputable def kn41 : Known := { ids := [G + 1, G + 2, G + 3, G + 4], objs := L16, args := [.slice (some ⟨G + 3, 0, none⟩) 4 0, .slice (some ⟨G + 3, 0, none⟩) 4 0], ans := .bool true }
noncomputable def K26 : List (Nat × Value) := [(0, .slice (some ⟨G + 3, 0, none⟩) 4 0), (1, .slice none 0 0)]
noncomputable def o87 : AObj := { cells := #[.bool true, .int .u32 167772160, .int .i64 8, .slice none 0 0, .bool true, .int .u32 167772160, .int .i64 9, .slice none 0 0, .bool true, .int .u32 169869312, .int .i64 11, .slice none 0 0, .bool true, .int .u32 170131456, .int .i64 14, .slice none 0 0], esz := 4, st := 1, prev := [] }
noncomputable def L17 : List AObj := [o83, o84, o85, o86, o87]
noncomputable def K27 : List (Nat × Value) := [(0, .slice (some ⟨G + 3, 0, none⟩) 4 0), (1, .slice none 0 0), (5, .slice (some ⟨G + 4, 0, none⟩) 4 0), (6, .int .i64 0)]
noncomputable def L18 : List AObj := [o87, o87]
noncomputable def K28 : List (Nat × Value) := [(5, .slice (some ⟨G + 0, 0, none⟩) 4 0), (6, .int .i64 0), (7, .slice (some ⟨G + 1, 0, none⟩) 4 0), (8, .int .i64 0)]
noncomputable def K29 : List (Nat × Value) := [(5, .slice (some ⟨G + 0, 0, none⟩) 4 0), (7, .slice (some ⟨G + 1, 0, none⟩) 4 0)]
noncomputable def K30 : List (Nat × Value) := [(5, .slice (some ⟨G + 0, 0, none⟩) 4 0), (7, .slice (some ⟨G + 1, 0, none⟩) 4 0), (9, .int .i64 0)]
noncomputable def K31 : List (Nat × Value) := [(5, .slice (some ⟨G + 0, 0, none⟩) 4 0), (7, .slice (some ⟨G + 1, 0, none⟩) 4 0), (9, .int .i64 1)]
noncomputable def K32 : List (Nat × Value) := [(5, .slice (some ⟨G + 0, 0, none⟩) 4 0), (7, .slice (some ⟨G + 1, 0, none⟩) 4 0), (9, .int .i64 2)]
noncomputable def K33 : List (Nat × Value) := [(5, .slice (some ⟨G + 0, 0, none⟩) 4 0), (7, .slice (some ⟨G + 1, 0, none⟩) 4 0), (9, .int .i64 3)]
noncomputable def K34 : List (Nat × Value) := [(5, .slice (some ⟨G + 0, 0, none⟩) 4 0), (7, .slice (some ⟨G + 1, 0, none⟩) 4 0), (9, .int .i64 4)]
noncomputable def kn61 : Known := { ids := [G + 1, G + 2, G + 3, G + 4], objs := L16, args := [.slice (some ⟨G + 3, 0, none⟩) 4 0, .slice none 0 0], ans := .bool true }
noncomputable def K35 : List (Nat × Value) := [(0, .slice none 0 0), (1, .slice (some ⟨G + 3, 0, none⟩) 4 0)]
noncomputable def o88 : AObj := { cells := #[.bool false, .int .u32 170131456, .int .i64 14, .slice none 0 0, .bool false, .int .u32 169869312, .int .i64 11, .slice (some ⟨G + 6, 0, none⟩) 1 0, .bool false, .int .u32 167772160, .int .i64 9, .slice (some ⟨G + 5, 0, none⟩) 1 0, .bool false, .int .u32 167772160, .int .i64 8, .slice (some ⟨G + 4, 0, none⟩) 1 0], esz := 4, st := 1, prev := [], ver := 12 }
noncomputable def L19 : List AObj := [o83, o84, o85, o86, o2, o1, o3, o88]
noncomputable def K36 : List (Nat × Value) := [(0, .slice none 0 0), (1, .slice (some ⟨G + 3, 0, none⟩) 4 0), (5, .slice (some ⟨G + 7, 0, none⟩) 4 0), (6, .int .i64 0)]
noncomputable def o89 : AObj := { cells := #[.bool false, .int .u32 170131456, .int .i64 14, .slice none 0 0, .bool false, .int .u32 169869312, .int .i64 11, .slice (some ⟨G + 5, 0, none⟩) 1 0, .bool false, .int .u32 167772160, .int .i64 9, .slice (some ⟨G + 4, 0, none⟩) 1 0, .bool false, .int .u32 167772160, .int .i64 8, .slice (some ⟨G + 3, 0, none⟩) 1 0], esz := 4, st := 1, prev := [], ver := 12 }
noncomputable def o90 : AObj := { cells := #[.bool false, .int .u32 170131456, .int .i64 14, .slice none 0 0, .bool false, .int .u32 169869312, .int .i64 11, .slice (some ⟨G + 2, 0, none⟩) 1 0, .bool false, .int .u32 167772160, .int .i64 9, .slice (some ⟨G + 0, 0, none⟩) 1 0, .bool false, .int .u32 167772160, .int .i64 8, .slice (some ⟨G + 1, 0, none⟩) 1 0], esz := 4, st := 1, prev := [] }
noncomputable def L20 : List AObj := [o83, o84, o85, o2, o1, o3, o89, o90]
noncomputable def K37 : List (Nat × Value) := [(5, .slice (some ⟨G + 6, 0, none⟩) 4 0), (6, .int .i64 0), (7, .slice (some ⟨G + 7, 0, none⟩) 4 0), (8, .int .i64 0)]
noncomputable def K38 : List (Nat × Value) := [(5, .slice (some ⟨G + 6, 0, none⟩) 4 0), (7, .slice (some ⟨G + 7, 0, none⟩) 4 0)]
noncomputable def K39 : List (Nat × Value) := [(5, .slice (some ⟨G + 6, 0, none⟩) 4 0), (7, .slice (some ⟨G + 7, 0, none⟩) 4 0), (9, .int .i64 0)]
noncomputable def K40 : List (Nat × Value) := [(5, .slice (some ⟨G + 6, 0, none⟩) 4 0), (7, .slice (some ⟨G + 7, 0, none⟩) 4 0), (9, .int .i64 1)]
noncomputable def K41 : List (Nat × Value) := [(5, .slice (some ⟨G + 6, 0, none⟩) 4 0), (7, .slice (some ⟨G + 7, 0, none⟩) 4 0), (9, .int .i64 2)]
noncomputable def K42 : List (Nat × Value) := [(5, .slice (some ⟨G + 6, 0, none⟩) 4 0), (7, .slice (some ⟨G + 7, 0, none⟩) 4 0), (9, .int .i64 3)]
noncomputable def K43 : List (Nat × Value) := [(5, .slice (some ⟨G + 6, 0, none⟩) 4 0), (7, .slice (some ⟨G + 7, 0, none⟩) 4 0), (9, .int .i64 4)]
noncomputable def kn81 : Known := { ids := [G + 1, G + 2, G + 3, G + 4], objs := L16, args := [.slice none 0 0, .slice (some ⟨G + 3, 0, none⟩) 4 0], ans := .bool true }
noncomputable def o91 : AObj := { cells := #[.int .u32 1, .int .i64 0, .slice none 0 0], esz := 3, st := 0, prev := [] }
noncomputable def o92 : AObj := { cells := #[.int .u32 167772160, .int .i64 8, .slice (some ⟨G + 2, 0, none⟩) 1 0, .int .u32 167772160, .int .i64 9, .slice (some ⟨G + 1, 0, none⟩) 1 0, .int .u32 169869312, .int .i64 11, .slice (some ⟨G + 3, 0, none⟩) 1 0, .int .u32 170131456, .int .i64 14, .slice none 0 0], esz := 3, st := 0, prev := [] }
noncomputable def L21 : List AObj := [o91, o83, o84, o85, o92]
noncomputable def K44 : List (Nat × Value) := [(0, .slice (some ⟨G + 4, 0, none⟩) 4 0), (1, .slice (some ⟨G + 0, 0, none⟩) 1 0)]
noncomputable def K45 : List (Nat × Value) := [(0, .slice (some ⟨G + 4, 0, none⟩) 4 0), (1, .slice (some ⟨G + 0, 0, none⟩) 1 0), (5, .slice none 0 0), (6, .int .i64 12)]
noncomputable def K46 : List (Nat × Value) := [(5, .slice none 0 0), (6, .int .i64 12), (7, .slice none 0 0), (8, .int .i64 12)]
noncomputable def kn97 : Known := { ids := [G + 0, G + 1, G + 2, G + 3, G + 4], objs := L21, args := [.slice (some ⟨G + 4, 0, none⟩) 4 0, .slice (some ⟨G + 0, 0, none⟩) 1 0], ans := .bool true }
noncomputable def o93 : AObj := { cells := #[.int .u32 167772160, .int .i64 9, .slice (some ⟨G + 1, 0, none⟩) 1 0, .int .u32 169869312, .int .i64 11, .slice (some ⟨G + 2, 0, none⟩) 1 0, .int .u32 169869312, .int .i64 14, .slice (some ⟨G + 3, 0, none⟩) 1 0], esz := 3, st := 0, prev := [] }
noncomputable def L22 : List AObj := [o91, o84, o85, o83, o93]
noncomputable def K47 : List (Nat × Value) := [(0, .slice (some ⟨G + 0, 0, none⟩) 1 0), (1, .slice (some ⟨G + 4, 0, none⟩) 3 0)]
noncomputable def K48 : List (Nat × Value) := [(0, .slice (some ⟨G + 0, 0, none⟩) 1 0), (1, .slice (some ⟨G + 4, 0, none⟩) 3 0), (5, .slice none 0 0), (6, .int .i64 12)]
noncomputable def kn113 : Known := { ids := [G + 0, G + 5, G + 6, G + 7, G + 8], objs := L22, args := [.slice (some ⟨G + 0, 0, none⟩) 1 0, .slice (some ⟨G + 4, 0, none⟩) 3 0], ans := .bool true }
noncomputable def o94 : AObj := { cells := #[.int .u32 167772160, .int .i64 9, .slice (some ⟨G + 4, 0, none⟩) 1 0, .int .u32 169869312, .int .i64 11, .slice (some ⟨G + 5, 0, none⟩) 1 0, .int .u32 169869312, .int .i64 14, .slice (some ⟨G + 6, 0, none⟩) 1 0], esz := 3, st := 0, prev := [] }
noncomputable def L23 : List AObj := [o83, o84, o85, o86, o84, o85, o83, o94]
noncomputable def K49 : List (Nat × Value) := [(0, .slice (some ⟨G + 3, 0, none⟩) 4 0), (1, .slice (some ⟨G + 7, 0, none⟩) 3 0)]
noncomputable def o95 : AObj := { cells := #[.bool false, .int .u32 169869312, .int .i64 14, .slice (some ⟨G + 9, 0, none⟩) 1 0, .bool false, .int .u32 167772160, .int .i64 9, .slice (some ⟨G + 8, 0, none⟩) 1 0, .bool true, .int .u32 167772160, .int .i64 8, .slice none 0 0, .bool true, .int .u32 170131456, .int .i64 14, .slice none 0 0], esz := 4, st := 1, prev := [] }
noncomputable def L24 : List AObj := [o83, o84, o85, o86, o84, o85, o83, o94, o2, o1, o95]
noncomputable def K50 : List (Nat × Value) := [(0, .slice (some ⟨G + 3, 0, none⟩) 4 0), (1, .slice (some ⟨G + 7, 0, none⟩) 3 0), (5, .slice (some ⟨G + 10, 0, none⟩) 4 0), (6, .int .i64 0)]
noncomputable def o96 : AObj := { cells := #[.bool false, .int .u32 169869312, .int .i64 14, .slice (some ⟨G + 3, 0, none⟩) 1 0, .bool false, .int .u32 167772160, .int .i64 9, .slice (some ⟨G + 2, 0, none⟩) 1 0, .bool true, .int .u32 167772160, .int .i64 8, .slice none 0 0, .bool true, .int .u32 170131456, .int .i64 14, .slice none 0 0], esz := 4, st := 1, prev := [] }
noncomputable def o97 : AObj := { cells := #[.bool false, .int .u32 169869312, .int .i64 14, .slice (some ⟨G + 1, 0, none⟩) 1 0, .bool false, .int .u32 167772160, .int .i64 9, .slice (some ⟨G + 0, 0, none⟩) 1 0, .bool true, .int .u32 167772160, .int .i64 8, .slice none 0 0, .bool true, .int .u32 170131456, .int .i64 14, .slice none 0 0], esz := 4, st := 1, prev := [] }
noncomputable def L25 : List AObj := [o84, o83, o2, o1, o96, o97]
noncomputable def K51 : List (Nat × Value) := [(5, .slice (some ⟨G + 4, 0, none⟩) 4 0), (6, .int .i64 0), (7, .slice (some ⟨G + 5, 0, none⟩) 4 0), (8, .int .i64 0)]
noncomputable def K52 : List (Nat × Value) := [(5, .slice (some ⟨G + 4, 0, none⟩) 4 0), (7, .slice (some ⟨G + 5, 0, none⟩) 4 0)]
noncomputable def K53 : List (Nat × Value) := [(5, .slice (some ⟨G + 4, 0, none⟩) 4 0), (7, .slice (some ⟨G + 5, 0, none⟩) 4 0), (9, .int .i64 0)]
noncomputable def K54 : List (Nat × Value) := [(5, .slice (some ⟨G + 4, 0, none⟩) 4 0), (7, .slice (some ⟨G + 5, 0, none⟩) 4 0), (9, .int .i64 1)]
noncomputable def K55 : List (Nat × Value) := [(5, .slice (some ⟨G + 4, 0, none⟩) 4 0), (7, .slice (some ⟨G + 5, 0, none⟩) 4 0), (9, .int .i64 2)]
noncomputable def K56 : List (Nat × Value) := [(5, .slice (some ⟨G + 4, 0, none⟩) 4 0), (7, .slice (some ⟨G + 5, 0, none⟩) 4 0), (9, .int .i64 3)]
noncomputable def K57 : List (Nat × Value) := [(5, .slice (some ⟨G + 4, 0, none⟩) 4 0), (7, .slice (some ⟨G + 5, 0, none⟩) 4 0), (9, .int .i64 4)]
noncomputable def kn133 : Known := { ids := [G + 1, G + 2, G + 3, G + 4, G + 5, G + 6, G + 7, G + 8], objs := L23, args := [.slice (some ⟨G + 3, 0, none⟩) 4 0, .slice (some ⟨G + 7, 0, none⟩) 3 0], ans := .bool true }
noncomputable def K58 : List (Nat × Value) := [(0, .bool true)]
theorem sh : nav [] B = .seq (nav [0] B) (nav [1] B) := by kernel_rfl
theorem sh1 : nav [1] B = .seq (nav [1, 0] B) (nav [1, 1] B) := by kernel_rfl
theorem sh1_1 : nav [1, 1] B = .seq (nav [1, 1, 0] B) (nav [1, 1, 1] B) := by kernel_rfl
theorem sh1_1_1 : nav [1, 1, 1] B = .seq (nav [1, 1, 1, 0] B) (nav [1, 1, 1, 1] B) := by kernel_rfl
theorem sh1_1_1_1 : nav [1, 1, 1, 1] B = .seq (nav [1, 1, 1, 1, 0] B) (nav [1, 1, 1, 1, 1] B) := by kernel_rfl
theorem sh1_1_1_1_1 : nav [1, 1, 1, 1, 1] B = .seq (nav [1, 1, 1, 1, 1, 0] B) (nav [1, 1, 1, 1, 1, 1] B) := by kernel_rfl
theorem sh1_1_1_1_1_1 : nav [1, 1, 1, 1, 1, 1] B = .seq (nav [1, 1, 1, 1, 1, 1, 0] B) (nav [1, 1, 1, 1, 1, 1, 1] B) := by kernel_rfl
theorem sh1_1_1_1_1_1_1 : nav [1, 1, 1, 1, 1, 1, 1] B = .seq (nav [1, 1, 1, 1, 1, 1, 1, 0] B) (nav [1, 1, 1, 1, 1, 1, 1, 1] B) := by kernel_rfl
theorem sh1_1_1_1_1_1_1_1 : nav [1, 1, 1, 1, 1, 1, 1, 1] B = .seq (nav [1, 1, 1, 1, 1, 1, 1, 1, 0] B) (nav [1, 1, 1, 1, 1, 1, 1, 1, 1] B) := by kernel_rfl
theorem sh1_1_1_1_1_1_1_1_1 : nav [1, 1, 1, 1, 1, 1, 1, 1, 1] B = .seq (nav [1, 1, 1, 1, 1, 1, 1, 1, 1, 0] B) (nav [1, 1, 1, 1, 1, 1, 1, 1, 1, 1] B) := by kernel_rfl
theorem sh1_1_1_1_1_1_1_1_1_1 : nav [1, 1, 1, 1, 1, 1, 1, 1, 1, 1] B = .seq (nav [1, 1, 1, 1, 1, 1, 1, 1, 1, 1, 0] B) (nav [1, 1, 1, 1, 1, 1, 1, 1, 1, 1, 1] B) := by kernel_rfl
theorem sh1_1_1_1_1_1_1_1_1_1_1 : nav [1, 1, 1, 1, 1, 1, 1, 1, 1, 1, 1] B = .seq (nav [1, 1, 1, 1, 1, 1, 1, 1, 1, 1, 1, 0] B) (nav [1, 1, 1, 1, 1, 1, 1, 1, 1, 1, 1, 1] B) := by kernel_rfl
theorem sh1_1_1_1_1_1_1_1_1_1_1_1 : nav [1, 1, 1, 1, 1, 1, 1, 1, 1, 1, 1, 1] B = .seq (nav [1, 1, 1, 1, 1, 1, 1, 1, 1, 1, 1, 1, 0] B) (nav [1, 1, 1, 1, 1, 1, 1, 1, 1, 1, 1, 1, 1] B) := by kernel_rfl
theorem sh1_1_1_1_1_1_1_1_1_1_1_1_1 : nav [1, 1, 1, 1, 1, 1, 1, 1, 1, 1, 1, 1, 1] B = .seq (nav [1, 1, 1, 1, 1, 1, 1, 1, 1, 1, 1, 1, 1, 0] B) (nav [1, 1, 1, 1, 1, 1, 1, 1, 1, 1, 1, 1, 1, 1] B) := by kernel_rfl
theorem sh1_1_1_1_1_1_1_1_1_1_1_1_1_1 : nav [1, 1, 1, 1, 1, 1, 1, 1, 1, 1, 1, 1, 1, 1] B = .seq (nav [1, 1, 1, 1, 1, 1, 1, 1, 1, 1, 1, 1, 1, 1, 0] B) (nav [1, 1, 1, 1, 1, 1, 1, 1, 1, 1, 1, 1, 1, 1, 1] B) := by kernel_rfl
theorem sh1_1_1_1_1_1_1_1_1_1_1_1_1_1_1 : nav [1, 1, 1, 1, 1, 1, 1, 1, 1, 1, 1, 1, 1, 1, 1] B = .seq (nav [1, 1, 1, 1, 1, 1, 1, 1, 1, 1, 1, 1, 1, 1, 1, 0] B) (nav [1, 1, 1, 1, 1, 1, 1, 1, 1, 1, 1, 1, 1, 1, 1, 1] B) := by kernel_rfl
theorem sh1_1_1_1_1_1_1_1_1_1_1_1_1_1_1_1 : nav [1, 1, 1, 1, 1, 1, 1, 1, 1, 1, 1, 1, 1, 1, 1, 1] B = .seq (nav [1, 1, 1, 1, 1, 1, 1, 1, 1, 1, 1, 1, 1, 1, 1, 1, 0] B) (nav [1, 1, 1, 1, 1, 1, 1, 1, 1, 1, 1, 1, 1, 1, 1, 1, 1] B) := by kernel_rfl
theorem sh1_1_1_1_1_1_1_1_1_1_1_1_1_1_1_1_0 : nav [1, 1, 1, 1, 1, 1, 1, 1, 1, 1, 1, 1, 1, 1, 1, 1, 0] B = .seq (nav [1, 1, 1, 1, 1, 1, 1, 1, 1, 1, 1, 1, 1, 1, 1, 1, 0, 0] B) (nav [1, 1, 1, 1, 1, 1, 1, 1, 1, 1, 1, 1, 1, 1, 1, 1, 0, 1] B) := by kernel_rfl
theorem sh1_1_1_1_1_1_1_1_1_1_1_1_1_1_1_1_0_1 : nav [1, 1, 1, 1, 1, 1, 1, 1, 1, 1, 1, 1, 1, 1, 1, 1, 0, 1] B = .block 0 (nav [1, 1, 1, 1, 1, 1, 1, 1, 1, 1, 1, 1, 1, 1, 1, 1, 0, 1, 0] B) := by kernel_rfl
theorem sh1_1_1_1_1_1_1_1_1_1_1_1_1_1_1_1_0_1_0 : nav [1, 1, 1, 1, 1, 1, 1, 1, 1, 1, 1, 1, 1, 1, 1, 1, 0, 1, 0] B = .loop (nav [1, 1, 1, 1, 1, 1, 1, 1, 1, 1, 1, 1, 1, 1, 1, 1, 0, 1, 0, 0] B) := by kernel_rfl
theorem sh1_1_1_1_1_1_1_1_1_1_1_1_1_1_1_1_1 : nav [1, 1, 1, 1, 1, 1, 1, 1, 1, 1, 1, 1, 1, 1, 1, 1, 1] B = .seq (nav [1, 1, 1, 1, 1, 1, 1, 1, 1, 1, 1, 1, 1, 1, 1, 1, 1, 0] B) (nav [1, 1, 1, 1, 1, 1, 1, 1, 1, 1, 1, 1, 1, 1, 1, 1, 1, 1] B) := by kernel_rfl
theorem sh1_1_1_1_1_1_1_1_1_1_1_1_1_1_1_1_1_1 : nav [1, 1, 1, 1, 1, 1, 1, 1, 1, 1, 1, 1, 1, 1, 1, 1, 1, 1] B = .seq (nav [1, 1, 1, 1, 1, 1, 1, 1, 1, 1, 1, 1, 1, 1, 1, 1, 1, 1, 0] B) (nav [1, 1, 1, 1, 1, 1, 1, 1, 1, 1, 1, 1, 1, 1, 1, 1, 1, 1, 1] B) := by kernel_rfl
theorem shA30 : nav [] BA30 = .seq (nav [0] BA30) (nav [1] BA30) := by kernel_rfl
theorem shA301 : nav [1] BA30 = .seq (nav [1, 0] BA30) (nav [1, 1] BA30) := by kernel_rfl
theorem shA301_1 : nav [1, 1] BA30 = .seq (nav [1, 1, 0] BA30) (nav [1, 1, 1] BA30) := by kernel_rfl
theorem shA301_1_1 : nav [1, 1, 1] BA30 = .seq (nav [1, 1, 1, 0] BA30) (nav [1, 1, 1, 1] BA30) := by kernel_rfl
theorem shA301_1_1_1 : nav [1, 1, 1, 1] BA30 = .seq (nav [1, 1, 1, 1, 0] BA30) (nav [1, 1, 1, 1, 1] BA30) := by kernel_rfl
theorem shA301_1_1_1_0 : nav [1, 1, 1, 1, 0] BA30 = .seq (nav [1, 1, 1, 1, 0, 0] BA30) (nav [1, 1, 1, 1, 0, 1] BA30) := by kernel_rfl
theorem shA301_1_1_1_0_1 : nav [1, 1, 1, 1, 0, 1] BA30 = .block 0 (nav [1, 1, 1, 1, 0, 1, 0] BA30) := by kernel_rfl
theorem shA301_1_1_1_0_1_0 : nav [1, 1, 1, 1, 0, 1, 0] BA30 = .loop (nav [1, 1, 1, 1, 0, 1, 0, 0] BA30) := by kernel_rfl
end DLaw
end Go.Proofs.Ytjlieapiedmiiaa
