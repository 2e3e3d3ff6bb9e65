/- P12.2: who is not there yet ends when the clock has run; without a hold time nothing ever does: the walk. -/
import Derived.Test.YtiencdfpehanaaaGreatSa
namespace Go.Proofs.YtiencdfpehanaaaGreat
open Go Go.Ev Go.RowKit
set_option maxRecDepth 100000
namespace SessS
theorem an : ∀ p ∈ ([] : List Prop), p := fun _ h => nomatch h
theorem ac {a : Prop} {l : List Prop} (h : a) (hl : ∀ p ∈ l, p) : ∀ p ∈ a :: l, p := fun p hp => by
  rcases List.mem_cons.1 hp with rfl | hp
  · exact h
  · exact hl p hp
section
variable {W : World}
abbrev Gk (W : World) (p : List Nat) (L : List AObj) (K : List (Nat × Value)) (e : AExit) (L' : List AObj) (K' : List (Nat × Value)) : Prop := GoesK Tryz.prog W (nav p B) NT L K e L' K'
theorem gs {p : List Nat} {m : List (Nat × Bool)} {ks : List Nat} {L L' : List AObj} {K K' : List (Nat × Value)} {π : List Ans} {e : AExit} {cs : List Prop} (hok : okCode (nav p B) = true) (h : RD p m ks L K π e L' K' cs) (hc : ∀ p ∈ cs, p) : Gk W p L K e L' K' :=
  pieceS_goes SessW.E_sound good hok h hc an
theorem gp {p m ks : List Nat} {L L' : List AObj} {K K' : List (Nat × Value)} {e : AExit} (hok : okCode (nav p B) = true) (h : pc p m ks L K = some (e, L', K')) : Gk W p L K e L' K' :=
  piece_goes SessW.E_sound good hok h
theorem up (i : Nat) (h : i < 1000) : wrapF .i64 (Int.ofNat i + 1) = Int.ofNat (i + 1) := by
  rw [wrap64 (by show -9223372036854775808 ≤ (i : Int) + 1; omega) (by show (i : Int) + 1 < _; omega)]; rfl
theorem le_c {i n : Nat} (h : i ≤ n) : leC i n true := decide_eq_true (Int.ofNat_le.2 h)
theorem gt_c {i n : Nat} (h : ¬ i ≤ n) : leC i n false := decide_eq_false (fun hh => h (Int.ofNat_le.1 hh))
theorem id_low {i : Nat} (h : i < 240) : idC 2 i := by
  unfold idC
  rw [decide_eq_false (show ¬ (2 : Int) = 1 by decide), decide_eq_false (show ¬ (Int.ofNat i ≥ 240) by show ¬ (i : Int) ≥ 240; omega)]; rfl
theorem id_dead {i : Nat} (h : 240 ≤ i) : idC 1 i := by
  unfold idC
  rw [decide_eq_true (show (1 : Int) = 1 by rfl), decide_eq_true (show Int.ofNat i ≥ 240 by show (i : Int) ≥ 240; omega)]; rfl
theorem ou_c {i : Nat} (h : i ≠ 240) : ouC i := by
  unfold ouC
  rw [decide_eq_false (show ¬ (((0 : Nat) : Int) > 0) by decide), decide_eq_false (show ¬ Int.ofNat i = 240 by show ¬ (i : Int) = 240; omega)]; rfl
theorem he_c {c : Nat} (h : c + 1 < 240) : heC c := by
  unfold heC
  rw [up c (by omega)]
  exact decide_eq_false (by show ¬ ((c + 1 : Nat) : Int) ≥ 240; omega)
theorem loopD {n : Nat} (hn : n ≤ 600) : ∀ (k i : Nat), 241 ≤ i → n + 1 ≤ i + k → GoesL Tryz.prog W (k + 1) (nav pB B) (hk G [dO, tO, eO]) (tk NT (KH n i)) (.exit 0) (hk G []) (tk NT []) := by
  intro k
  induction k with
  | zero => intro i h1 h2; exact .exit (gs okB (r_dend n i) (ac (gt_c (by omega)) an))
  | succ k ih =>
    intro i h1 h2
    by_cases h : i ≤ n
    case neg => exact .exit (gs okB (r_dend n i) (ac (gt_c h) an))
    have a := id_dead (i := i) (by omega)
    have b := ou_c (i := i) (by omega)
    have step : Gk W pB [dO, tO, eO] (KH n i) .normal [dO, tO, eO] (KH n (i + 1)) := by
      have := gs (W := W) okB (r_dead n i) (ac a (ac a (ac a (ac a (ac a (ac a (ac a (ac b (ac b (ac b (ac b (ac b (ac b (ac b (ac (le_c h) an)))))))))))))))
      rw [up i (by omega)] at this
      exact this
    exact .next step (ih (i + 1) (by omega) (by omega))
theorem loopS {n : Nat} (hn : n ≤ 600) : ∀ (k c : Nat), c ≤ 239 → n + 1 ≤ c + 1 + k → GoesL Tryz.prog W (k + 1) (nav pB B) (hk G [sO c, tO, eO]) (tk NT (KH n (c + 1))) (.exit 0) (hk G []) (tk NT []) := by
  intro k
  induction k with
  | zero => intro c h1 h2; exact .exit (gs okB (r_lend n c) (ac (gt_c (by omega)) an))
  | succ k ih =>
    intro c h1 h2
    by_cases h : c + 1 ≤ n
    case neg => exact .exit (gs okB (r_lend n c) (ac (gt_c h) an))
    by_cases h3 : c = 239
    · subst h3
      exact .next (gs okB (r_at n) (ac (le_c h) an)) (loopD hn k 241 (by omega) (by omega))
    have a := id_low (i := c + 1) (by omega)
    have b := ou_c (i := c + 1) (by omega)
    have step : Gk W pB [sO c, tO, eO] (KH n (c + 1)) .normal [sO (c + 1), tO, eO] (KH n (c + 1 + 1)) := by
      have := gs (W := W) okB (r_low n c) (ac a (ac a (ac a (ac a (ac a (ac a (ac a (ac b (ac b (ac b (ac b (ac b (ac b (ac b (ac (he_c (by omega)) (ac (le_c h) an))))))))))))))))
      rw [up c (by omega), up (c + 1) (by omega)] at this
      exact this
    exact .next step (ih (c + 1) (by omega) (by omega))
theorem whole (a : Int) : GoesK Tryz.prog W (nest [nav [0] B, nav [1, 0] B, nav [1, 1, 0] B, nav [1, 1, 1, 0] B, nav [1, 1, 1, 1, 0] B, nav [1, 1, 1, 1, 1, 0] B, nav [1, 1, 1, 1, 1, 1, 0] B, nav [1, 1, 1, 1, 1, 1, 1, 0] B, nav pW B]
    (.seq (.seq (nav pR B) (.block 0 (.loop (nav pB B)))) (nav pE B))) NT [] (K0 a) .ret [] [(2, .bool true)] := by
  obtain ⟨n, hn⟩ : ∃ n : Nat, withinV a 1 600 = (n : Int) := ⟨(withinV a 1 600).toNat, by unfold withinV; omega⟩
  have h6 : n ≤ 600 := by unfold withinV at hn; omega
  have hw : inW a n := by unfold inW; rw [hn]; rfl
  refine .seq (gp (by kernel_rfl) (p0 a)) (.seq (gp (by kernel_rfl) (p1 a)) (.seq (gp (by kernel_rfl) (p2 a)) (.seq (gp (by kernel_rfl) (p3 a)) (.seq (gp (by kernel_rfl) (p4 a)) (.seq (gp (by kernel_rfl) (p5 a)) (.seq (gp (by kernel_rfl) (p6 a)) (.seq (gp (by kernel_rfl) (p7 a))
    (.seq (gs okW (r_w a n) (ac hw an)) ?_))))))))
  exact .seq (.seq (gs okR (r_go n) an) (.blockExit (GoesL.loop (n := 600 + 1) (loopS h6 600 0 (by omega) (by omega))))) (gp okE fin)
end
theorem walk (a : Int) (_ : (Lit.int .i64 a).wf = true) (W : World) : Calls Tryz.prog 4 #[.int .i64 a] W fun e W' => e = .returned (.bool true) ∧ Below W.heap.size W W' :=
  GoesK.calls (ps := []) (args := [.int .i64 a]) (args' := [.int .i64 a]) (K' := [(2, .bool true)]) (L' := []) (v := .bool true) (s' := ⟨hk G [], 0, none, []⟩) Tryz.func4 shape (Nat.le_of_ble_eq_true (by kernel_rfl)) (fun p hp => nomatch hp) (Nat.le_of_ble_eq_true (by kernel_rfl)) (.cons (.flat rfl) .nil) (whole a) (.inl rfl) (by kernel_rfl) rfl rfl
end SessS
end Go.Proofs.YtiencdfpehanaaaGreat
