/- P4.1: where bytes lack all is zero from then on: the walk of WireLacks. -/
import Derived.Test.YtddlejbcnjmfmaaWl
import Derived.Deep.Strs
namespace Go.Proofs.Ytddlejbcnjmfmaa
open Go Go.Ev Go.RowKit Go.ChangeShapes Go.WideShapes
set_option maxRecDepth 100000
namespace WireLk
theorem an : ∀ p ∈ ([] : List Prop), p := fun _ h => nomatch h
theorem ac {a : Prop} {l : List Prop} (h : a) (hl : ∀ p ∈ l, p) : ∀ p ∈ a :: l, p := fun p hp => by
  rcases List.mem_cons.1 hp with rfl | hp
  · exact h
  · exact hl p hp
section
variable {W : World}
abbrev Gk (W : World) (p : List Nat) (L : List AObj) (K : List (Nat × Value)) (e : AExit) (L' : List AObj) (K' : List (Nat × Value)) : Prop := GoesK Try.prog W (nav p B) NT L K e L' K'
theorem gs {p : List Nat} {m : List (Nat × Bool)} {ks : List Nat} {L L' : List AObj} {K K' : List (Nat × Value)} {π : List Ans} {e : AExit} {cs ds : List Prop} (hok : okCode (nav p B) = true) (h : RD p m ks L K π e L' K' cs ds) (hc : ∀ p ∈ cs, p) (hd : ∀ p ∈ ds, p) : Gk W p L K e L' K' :=
  pieceS_goes noEnv_sound good hok h hc hd
theorem leftM_zero (m : Nat) : leftM m = 0 := by
  unfold leftM
  rw [Int.sub_self]; rfl
theorem nx_eq {n i : Nat} (h : i < 20) : nx n i = KH n (i + 1) := by
  have : wrapF .i64 (Int.ofNat i + 1) = Int.ofNat (i + 1) := by
    rw [wrap64 (by show -9223372036854775808 ≤ (i : Int) + 1; omega) (by show (i : Int) + 1 < _; omega)]; rfl
  unfold nx KH
  rw [this]
theorem lt_c {n i : Nat} (h : i < n) : ltC n i true := decide_eq_true (Int.ofNat_lt.2 h)
theorem ge_c {n i : Nat} (h : ¬ i < n) : ltC n i false := decide_eq_false (fun hh => h (Int.ofNat_lt.1 hh))
theorem top_c {i : Nat} (h : i < 20) : topC i true := decide_eq_true (show (i : Int) < 20 by omega)
theorem ntop_c {i : Nat} (h : ¬ i < 20) : topC i false := decide_eq_false (show ¬ (i : Int) < 20 by omega)
theorem in_c {n i : Nat} (h : i < n) : inC n i := decide_eq_true ⟨Int.natCast_nonneg i, Int.ofNat_lt.2 h⟩
theorem zero_c (m : Nat) : zeroC m := by
  unfold zeroC
  rw [leftM_zero]; rfl
theorem head_c {n i : Nat} (h : i < n) (h2 : i < 20) : ∀ p ∈ headC n i, p := ac (top_c h2) (ac (lt_c h) (ac (lt_c h) (ac (lt_c h) an)))
theorem loopW {n m : Nat} {A C : Array Value} (hA : plainC A) (hC : plainC C) (hx : ∀ i, i < n → ∃ x, celC A i x) : ∀ (k i : Nat), 20 ≤ i + k →
    GoesL Try.prog W (k + 1) (nav pB B) (hk G [aObj A, rObj 2 m, cObj C]) (tk NT (KH n i)) (.exit 0) (hk G []) (tk NT []) := by
  intro k
  induction k with
  | zero =>
    intro i hi
    by_cases h : i < n
    · exact .exit (gs okB (r_w_top n m i A C) (ac (ntop_c (by omega)) (ac (lt_c h) (ac (lt_c h) (ac (lt_c h) an)))) an)
    · exact .exit (gs okB (r_w_end n m i A C) (ac (ge_c h) (ac (ge_c h) (ac (ge_c h) an))) an)
  | succ k ih =>
    intro i hi
    by_cases h : i < n
    case neg => exact .exit (gs okB (r_w_end n m i A C) (ac (ge_c h) (ac (ge_c h) (ac (ge_c h) an))) an)
    by_cases h2 : i < 20
    case neg => exact .exit (gs okB (r_w_top n m i A C) (ac (ntop_c h2) (ac (lt_c h) (ac (lt_c h) (ac (lt_c h) an)))) an)
    obtain ⟨x, hx⟩ := hx i h
    have hl := leftM_zero m
    have d4 : decide (4 > leftM m) = true := decide_eq_true (by omega)
    have d2 : decide (2 > leftM m) = true := decide_eq_true (by omega)
    have d1 : decide (1 > leftM m) = true := decide_eq_true (by omega)
    have step : Gk W pB [aObj A, rObj 2 m, cObj C] (KH n i) .normal [aObj A, rObj 2 m, cObj C] (KH n (i + 1)) := by
      rw [← nx_eq h2]
      by_cases h0 : x > 0
      · exact gs okB (r_w_pos n m i x A C) (ac (zero_c m) (ac (zero_c m) (ac (zero_c m) (ac (decide_eq_true (by omega)) (ac hx (ac (in_c h) (ac d4 (ac d2 (ac d1 (head_c h h2)))))))))) (ac hA (ac hC an))
      · exact gs okB (r_w_neg n m i x A C) (ac (zero_c m) (ac (zero_c m) (ac (zero_c m) (ac (decide_eq_false (by omega)) (ac hx (ac (in_c h) (ac d4 (ac d2 (ac d1 (head_c h h2)))))))))) (ac hA (ac hC an))
    exact .next step (ih (i + 1) (by omega))
theorem loopN {n : Nat} {A : Array Value} (hA : plainC A) (hx : ∀ i, i < n → ∃ x, celC A i x) : ∀ (k i : Nat), 20 ≤ i + k →
    GoesL Try.prog W (k + 1) (nav pB B) (hk G [aObj A, nObj]) (tk NT (KH n i)) (.exit 0) (hk G []) (tk NT []) := by
  intro k
  induction k with
  | zero =>
    intro i hi
    by_cases h : i < n
    · exact .exit (gs okB (r_n_top n i A) (ac (ntop_c (by omega)) (ac (lt_c h) (ac (lt_c h) (ac (lt_c h) an)))) an)
    · exact .exit (gs okB (r_n_end n i A) (ac (ge_c h) (ac (ge_c h) (ac (ge_c h) an))) an)
  | succ k ih =>
    intro i hi
    by_cases h : i < n
    case neg => exact .exit (gs okB (r_n_end n i A) (ac (ge_c h) (ac (ge_c h) (ac (ge_c h) an))) an)
    by_cases h2 : i < 20
    case neg => exact .exit (gs okB (r_n_top n i A) (ac (ntop_c h2) (ac (lt_c h) (ac (lt_c h) (ac (lt_c h) an)))) an)
    obtain ⟨x, hx⟩ := hx i h
    have hl := leftM_zero 0
    have step : Gk W pB [aObj A, nObj] (KH n i) .normal [aObj A, nObj] (KH n (i + 1)) := by
      rw [← nx_eq h2]
      by_cases h0 : x > 0
      · exact gs okB (r_n_pos n i x A) (ac (decide_eq_true (by omega)) (ac hx (ac (in_c h) (head_c h h2)))) (ac hA an)
      · exact gs okB (r_n_neg n i x A) (ac (decide_eq_false (by omega)) (ac hx (ac (in_c h) (head_c h h2)))) (ac hA an)
    exact .next step (ih (i + 1) (by omega))
/-- From the loop on. -/
noncomputable abbrev Rest : Code := .seq (.seq (nav pR B) (.block 0 (.loop (nav pB B)))) (nav pE B)
theorem last : GoesK Try.prog W (nav pE B) NT [] [] .ret [] [(4, .bool true)] := piece_goes noEnv_sound good okE fin
theorem restW {n m : Nat} {A C : Array Value} (hA : plainC A) (hC : plainC C) (hx : ∀ i, i < n → ∃ x, celC A i x) : GoesK Try.prog W Rest NT [aObj A, rObj 2 m, cObj C] [(1, rA 0 n), (5, pt 1)] .ret [] [(4, .bool true)] :=
  .seq (.seq (gs okR (r_w_go n m A C) an (ac hA (ac hC an))) (.blockExit (GoesL.loop (n := 20 + 1) (loopW hA hC hx 20 0 (by omega))))) last
theorem restN {n : Nat} {A : Array Value} (hA : plainC A) (hx : ∀ i, i < n → ∃ x, celC A i x) : GoesK Try.prog W Rest NT [aObj A, nObj] [(1, rA 0 n), (5, pt 1)] .ret [] [(4, .bool true)] :=
  .seq (.seq (gs okR (r_n_go n A) an (ac hA an)) (.blockExit (GoesL.loop (n := 20 + 1) (loopN hA hx 20 0 (by omega))))) last
theorem rest0 : GoesK Try.prog W Rest NT [] [(1, nl)] .ret [] [(4, .bool true)] :=
  .seq (.seq (gs okR r_0_go an an) (.blockExit (GoesL.loop (n := 0 + 1) (.exit (gs okB r_0_end an an))))) last
end
end WireLk
end Go.Proofs.Ytddlejbcnjmfmaa
