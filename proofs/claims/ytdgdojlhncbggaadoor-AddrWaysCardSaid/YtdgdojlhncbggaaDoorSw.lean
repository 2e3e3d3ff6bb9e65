/- P1.1: up again and again a prefix comes to the whole; half after half, by an address's bits, it comes to that address. -/
import Derived.Test.YtdgdojlhncbggaaDoorSr
namespace Go.Proofs.YtdgdojlhncbggaaDoor
open Go Go.Ev Go.RowKit
set_option maxRecDepth 100000
namespace Ways
abbrev wArgs (a n : Int) : Array Value := #[.int .u32 a, .int .i64 n]
def tupv (a n : Int) : Value := .tuple #[pfx a n, .bool true]
def upItems (U : Nat → Int) (i : Nat) : List Ans := [.bit true, .as (tupv (U i) i), .reck 9, .bit true, .as (.bool true), .reck 6, .bit true, .as (pfx (U i) i), .reck 1, .bit false, .reck 1]
def ups (U : Nat → Int) : Nat → List Ans
  | 0 => []
  | k + 1 => upItems U k ++ ups U k
def halfItems (U : Nat → Int) (j : Nat) : List Ans := [.bit true, .bit true, .as (tupv (U (j + 1)) ((j + 1 : Nat) : Int)), .reck 3, .bit true, .as (.bool true)]
def halves (U : Nat → Int) : Nat → List Ans
  | 0 => []
  | k + 1 => halves U k ++ halfItems U k ++ [.reck 5]
def path (U : Nat → Int) (K : Nat) : List Ans := [.bit true, .as (pfx (U K) K), .reck 2] ++ (ups U K ++ ([.bit false, .reck 1] ++ (halves U 31 ++ (halfItems U 31 ++ [.reck 4, .bit true, .bit true]))))
def hiB (a : Int) (j : Nat) : Bool := decide ((((a.fdiv ((2 ^ (31 - j) : Nat) : Int)).toNat &&& Int.toNat 1 : Nat) : Int) = 1)
def shF (a : Int) (j : Nat) : Bool := fitsU .u32 (a.fdiv ((2 ^ (31 - j) : Nat) : Int)) && fitsU .u32 1
def upC (a : Int) (U : Nat → Int) (K i : Nat) (c : List Prop) : List Prop :=
  ((!(U i == U i && (((i : Nat) : Int) == ((i : Nat) : Int) && true))) = false) ::
  (pfx ((a.toNat &&& maskN (clN (i : Int)) : Nat) : Int) (clN (i : Int)) = pfx (U i) i) ::
  (inU a = true) ::
  (Value.bool (coversB (U i) i (U K) K) = Value.bool true) ::
  ((inU (U i) && inU (U K)) = true) ::
  (upV2 (U (i + 1)) ((i + 1 : Nat) : Int) = tupv (U i) i) ::
  (inU (U (i + 1)) = true) :: c
def upsC (a : Int) (U : Nat → Int) (K : Nat) : Nat → List Prop → List Prop
  | 0, c => c
  | k + 1, c => upsC a U K k (upC a U K k c)
def halfC (a : Int) (U : Nat → Int) (j : Nat) (c : List Prop) : List Prop :=
  (Value.bool (hasB (U (j + 1)) ((j + 1 : Nat) : Int) a) = Value.bool true) ::
  ((inU (U (j + 1)) && inU a) = true) ::
  (halfV2 (U j) ((j : Nat) : Int) (hiB a j) = tupv (U (j + 1)) ((j + 1 : Nat) : Int)) ::
  (inU (U j) = true) ::
  (shF a j = true) :: c
def halvesC (a : Int) (U : Nat → Int) : Nat → List Prop → List Prop
  | 0, c => c
  | k + 1, c => halfC a U k (halvesC a U k c)
def conds (a n : Int) (U : Nat → Int) (K : Nat) : List Prop :=
  ((U 32 == a && (((32 : Nat) : Int) == 32 && true)) = true) :: ((U 32 == a && (((32 : Nat) : Int) == 32 && true)) = true) ::
  halvesC a U 32 (((!(U 0 == 0 && (((0 : Nat) : Int) == 0 && true))) = false) :: upsC a U K K [anyV2 a n = pfx (U K) K, inU a = true])
def Row (a n : Int) (U : Nat → Int) (K : Nat) : Prop := evRun Tryd.prog E3 200 8 (wArgs a n).toList Tryd.prog.globals.size (some (path U K)) = some (.bool true, conds a n U K)
theorem row0 (a n : Int) (U : Nat → Int) : Row a n U 0 := by unfold Row; kernel_rfl
theorem row1 (a n : Int) (U : Nat → Int) : Row a n U 1 := by unfold Row; kernel_rfl
theorem row2 (a n : Int) (U : Nat → Int) : Row a n U 2 := by unfold Row; kernel_rfl
theorem row3 (a n : Int) (U : Nat → Int) : Row a n U 3 := by unfold Row; kernel_rfl
theorem row4 (a n : Int) (U : Nat → Int) : Row a n U 4 := by unfold Row; kernel_rfl
theorem row5 (a n : Int) (U : Nat → Int) : Row a n U 5 := by unfold Row; kernel_rfl
theorem row6 (a n : Int) (U : Nat → Int) : Row a n U 6 := by unfold Row; kernel_rfl
theorem row7 (a n : Int) (U : Nat → Int) : Row a n U 7 := by unfold Row; kernel_rfl
theorem row8 (a n : Int) (U : Nat → Int) : Row a n U 8 := by unfold Row; kernel_rfl
theorem row9 (a n : Int) (U : Nat → Int) : Row a n U 9 := by unfold Row; kernel_rfl
theorem row10 (a n : Int) (U : Nat → Int) : Row a n U 10 := by unfold Row; kernel_rfl
theorem row11 (a n : Int) (U : Nat → Int) : Row a n U 11 := by unfold Row; kernel_rfl
theorem row12 (a n : Int) (U : Nat → Int) : Row a n U 12 := by unfold Row; kernel_rfl
theorem row13 (a n : Int) (U : Nat → Int) : Row a n U 13 := by unfold Row; kernel_rfl
theorem row14 (a n : Int) (U : Nat → Int) : Row a n U 14 := by unfold Row; kernel_rfl
theorem row15 (a n : Int) (U : Nat → Int) : Row a n U 15 := by unfold Row; kernel_rfl
theorem row16 (a n : Int) (U : Nat → Int) : Row a n U 16 := by unfold Row; kernel_rfl
theorem row17 (a n : Int) (U : Nat → Int) : Row a n U 17 := by unfold Row; kernel_rfl
theorem row18 (a n : Int) (U : Nat → Int) : Row a n U 18 := by unfold Row; kernel_rfl
theorem row19 (a n : Int) (U : Nat → Int) : Row a n U 19 := by unfold Row; kernel_rfl
theorem row20 (a n : Int) (U : Nat → Int) : Row a n U 20 := by unfold Row; kernel_rfl
theorem row21 (a n : Int) (U : Nat → Int) : Row a n U 21 := by unfold Row; kernel_rfl
theorem row22 (a n : Int) (U : Nat → Int) : Row a n U 22 := by unfold Row; kernel_rfl
theorem row23 (a n : Int) (U : Nat → Int) : Row a n U 23 := by unfold Row; kernel_rfl
theorem row24 (a n : Int) (U : Nat → Int) : Row a n U 24 := by unfold Row; kernel_rfl
theorem row25 (a n : Int) (U : Nat → Int) : Row a n U 25 := by unfold Row; kernel_rfl
theorem row26 (a n : Int) (U : Nat → Int) : Row a n U 26 := by unfold Row; kernel_rfl
theorem row27 (a n : Int) (U : Nat → Int) : Row a n U 27 := by unfold Row; kernel_rfl
theorem row28 (a n : Int) (U : Nat → Int) : Row a n U 28 := by unfold Row; kernel_rfl
theorem row29 (a n : Int) (U : Nat → Int) : Row a n U 29 := by unfold Row; kernel_rfl
theorem row30 (a n : Int) (U : Nat → Int) : Row a n U 30 := by unfold Row; kernel_rfl
theorem row31 (a n : Int) (U : Nat → Int) : Row a n U 31 := by unfold Row; kernel_rfl
theorem row32 (a n : Int) (U : Nat → Int) : Row a n U 32 := by unfold Row; kernel_rfl
theorem rows (a n : Int) (U : Nat → Int) : ∀ K : Nat, K ≤ 32 → Row a n U K
  | 0, _ => row0 a n U
  | 1, _ => row1 a n U
  | 2, _ => row2 a n U
  | 3, _ => row3 a n U
  | 4, _ => row4 a n U
  | 5, _ => row5 a n U
  | 6, _ => row6 a n U
  | 7, _ => row7 a n U
  | 8, _ => row8 a n U
  | 9, _ => row9 a n U
  | 10, _ => row10 a n U
  | 11, _ => row11 a n U
  | 12, _ => row12 a n U
  | 13, _ => row13 a n U
  | 14, _ => row14 a n U
  | 15, _ => row15 a n U
  | 16, _ => row16 a n U
  | 17, _ => row17 a n U
  | 18, _ => row18 a n U
  | 19, _ => row19 a n U
  | 20, _ => row20 a n U
  | 21, _ => row21 a n U
  | 22, _ => row22 a n U
  | 23, _ => row23 a n U
  | 24, _ => row24 a n U
  | 25, _ => row25 a n U
  | 26, _ => row26 a n U
  | 27, _ => row27 a n U
  | 28, _ => row28 a n U
  | 29, _ => row29 a n U
  | 30, _ => row30 a n U
  | 31, _ => row31 a n U
  | 32, _ => row32 a n U
  | K + 33, h => absurd h (by omega)

theorem pf_fl {x : Nat} (hx : x < 4294967296) {k : Nat} (hk : k ≤ 32) : Pf (fl x k) k := ⟨Nat.lt_of_le_of_lt (fl_le _ _) hx, hk, fl_fl (Nat.le_refl _)⟩
theorem tupv_of {v w : Value} {b : Bool} {a n : Int} (h : b = true) (e : v = pfx a n) : Value.tuple #[v, .bool b] = tupv a n := by subst h; subst e; rfl
theorem up_step {x : Nat} (hx : x < 4294967296) {i : Nat} (hi : i + 1 ≤ 32) : upV2 ((fl x (i + 1) : Nat) : Int) ((i + 1 : Nat) : Int) = tupv ((fl x i : Nat) : Int) (i : Int) := by
  obtain ⟨h1, h2, h3⟩ := up_eq (pf_fl hx hi) (a := fl x i) (fl_fl (by omega))
  unfold upV2 tupv; rw [h1, h2, h3]
theorem fdiv_nat (x k : Nat) : (x : Int).fdiv ((k : Nat) : Int) = ((x / k : Nat) : Int) := by
  rw [Int.fdiv_eq_ediv_of_nonneg _ (by omega)]; exact (Int.natCast_ediv x k).symm
theorem hiB_nat {x j : Nat} : hiB (x : Int) j = x.testBit (31 - j) := by
  unfold hiB
  rw [fdiv_nat, Int.toNat_natCast, Nat.testBit_eq_decide_div_mod_eq, show Int.toNat 1 = 1 from rfl, Nat.and_one_is_mod]
  rw [Bool.eq_iff_iff, decide_eq_true_eq, decide_eq_true_eq]; omega
theorem half_step {x : Nat} (hx : x < 4294967296) {j : Nat} (hj : j < 32) : halfV2 ((fl x j : Nat) : Int) ((j : Nat) : Int) (hiB (x : Int) j) = tupv ((fl x (j + 1) : Nat) : Int) ((j + 1 : Nat) : Int) := by
  obtain ⟨h1, h2⟩ := halfA_eq (pf_fl hx (Nat.le_of_lt hj)) hj (hiB (x : Int) j)
  have h3 := halfB_eq (pf_fl hx (Nat.le_of_lt hj))
  rw [decide_eq_true hj] at h3
  unfold halfV2 tupv; rw [h1, h2, h3, hiB_nat, fl_succ hj]; rfl
theorem shF_nat {x j : Nat} (hx : x < 4294967296) : shF (x : Int) j = true := by
  unfold shF
  rw [fdiv_nat, fitsU_in, inU_nat.2 (Nat.lt_of_le_of_lt (Nat.div_le_self _ _) hx)]; rfl
theorem fl_all (x : Nat) : fl x 32 = x := by unfold fl; simp
theorem upsC_holds {x : Nat} (hx : x < 4294967296) {K : Nat} (hK : K ≤ 32) : ∀ (k : Nat) (c : List Prop), k ≤ K → (∀ p ∈ c, p) → ∀ p ∈ upsC (x : Int) (fun i => ((fl x i : Nat) : Int)) K k c, p
  | 0, c, _, h => h
  | k + 1, c, hk, h => upsC_holds hx hK k _ (by omega) (by
    have hk2 : k ≤ 32 := by omega
    have p1 := pf_fl hx hk2
    have p2 := pf_fl hx hK
    unfold upC
    simp only [List.forall_mem_cons]
    refine ⟨by simp, ?_, inU_nat.2 hx, ?_, ?_, up_step hx (by omega), inU_nat.2 (pf_fl hx (by omega : k + 1 ≤ 32)).1, h⟩
    · have : clN (k : Int) = (k : Int) := by unfold clN; rw [if_neg (by omega), if_neg (by omega)]
      rw [this, Int.toNat_natCast, and_mask hx hk2]
    · rw [(covers_iff p1 p2).2 ⟨by omega, fl_fl (by omega)⟩]
    · rw [inU_nat.2 p1.1, inU_nat.2 p2.1]; rfl)
theorem halvesC_holds {x : Nat} (hx : x < 4294967296) : ∀ (k : Nat) (c : List Prop), k ≤ 32 → (∀ p ∈ c, p) → ∀ p ∈ halvesC (x : Int) (fun i => ((fl x i : Nat) : Int)) k c, p
  | 0, c, _, h => h
  | k + 1, c, hk, h => by
    have p1 := pf_fl hx (by omega : k ≤ 32)
    have p2 := pf_fl hx hk
    unfold halvesC halfC
    simp only [List.forall_mem_cons]
    refine ⟨?_, ?_, half_step hx (by omega), inU_nat.2 p1.1, shF_nat hx, halvesC_holds hx k c (by omega) h⟩
    · rw [(has_iff p2 hx).2 rfl]
    · rw [inU_nat.2 p2.1, inU_nat.2 hx]; rfl
theorem ways_walk (a n : Int) (wa : (Lit.int .u32 a).wf = true) (_ : (Lit.int .i64 n).wf = true) (W : World) :
    Calls Tryd.prog 8 (wArgs a n) W fun e W' => e = .returned (.bool true) ∧ Below W.heap.size W W' := by
  have ha := inU_wf wa
  obtain ⟨pa, K, e1, hp, e2, e3⟩ := any_pf a n ha
  have hau := inU_spec.1 ha
  obtain ⟨x, rfl⟩ : ∃ x : Nat, a = x := ⟨a.toNat, by omega⟩
  have hx : x < 4294967296 := by omega
  have hpa : pa = fl x K := by
    have : (pa : Int) = ((fl x K : Nat) : Int) := by
      rw [e2]; unfold anyA; rw [← e3, Int.toNat_natCast, and_mask hx hp.2.1]
    omega
  subst hpa
  refine calls_of_run E3_sound good Tryd.func8 rfl (rows x n (fun i => ((fl x i : Nat) : Int)) K hp.2.1) ?_ rfl rfl W
  unfold conds
  rw [List.forall_mem_cons, List.forall_mem_cons]
  have h32 : ((((fl x 32 : Nat) : Int) == (x : Int) && (((32 : Nat) : Int) == 32 && true)) = true) := by rw [fl_all]; simp
  refine ⟨h32, h32, halvesC_holds hx 32 _ (Nat.le_refl _) ?_⟩
  rw [List.forall_mem_cons]
  refine ⟨by show (!(((fl x 0 : Nat) : Int) == 0 && (((0 : Nat) : Int) == 0 && true))) = false; rw [fl_zero hx]; rfl, upsC_holds hx hp.2.1 K _ (Nat.le_refl _) ?_⟩
  simp only [List.forall_mem_cons]
  exact ⟨e1, ha, by simp⟩
end Ways
end Go.Proofs.YtdgdojlhncbggaaDoor
