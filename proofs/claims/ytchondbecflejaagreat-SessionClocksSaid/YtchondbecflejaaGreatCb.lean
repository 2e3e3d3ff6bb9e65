/- P12.2: who hears nothing for the hold time ends; until then it says a KEEPALIVE each third of it; who hears in time stays: the walk. -/
import Derived.Test.YtchondbecflejaaGreatCa
import Derived.Test.YtchondbecflejaaGreatEvX
namespace Go.Proofs.YtchondbecflejaaGreat
open Go Go.Ev Go.RowKit
set_option maxRecDepth 100000
namespace SessC
theorem ok0 : okCode (nav [0] B) = true := by kernel_rfl
theorem ok1 : okCode (nav [1, 0] B) = true := by kernel_rfl
theorem ok2 : okCode (nav [1, 1, 0] B) = true := by kernel_rfl
theorem ok3 : okCode (nav [1, 1, 1, 0] B) = true := by kernel_rfl
theorem ok4 : okCode (nav [1, 1, 1, 1, 0] B) = true := by kernel_rfl
theorem ok5 : okCode (nav [1, 1, 1, 1, 1, 0, 0] B) = true := by kernel_rfl
theorem ok6 : okCode (nav [1, 1, 1, 1, 1, 0, 1, 0, 0, 0] B) = true := by kernel_rfl
theorem ok7 : okCode (nav [1, 1, 1, 1, 1, 0, 1, 0, 0, 1, 1] B) = true := by kernel_rfl
theorem ok8 : okCode (nav [1, 1, 1, 1, 1, 0, 1, 0, 0, 1, 0, 0, 1] B) = true := by kernel_rfl
theorem ok9 : okCode (nav [1, 1, 1, 1, 1, 0, 1, 0, 0, 1, 0, 0, 0, 0] B) = true := by kernel_rfl
theorem okI : okCode (nav pIB B) = true := by kernel_rfl
theorem okS : okCode (nav [1, 1, 1, 1, 1, 1, 0] B) = true := by kernel_rfl
theorem okR : okCode (nav [1, 1, 1, 1, 1, 1, 1, 0, 0] B) = true := by kernel_rfl
theorem okC : okCode (nav pCB B) = true := by kernel_rfl
theorem okT : okCode (nav [1, 1, 1, 1, 1, 1, 1, 1] B) = true := by kernel_rfl
theorem shape : Tryz.f3.body = some (.seq (nav [0] B) (.seq (nav [1, 0] B) (.seq (nav [1, 1, 0] B) (.seq (nav [1, 1, 1, 0] B) (.seq (nav [1, 1, 1, 1, 0] B)
  (.seq (.seq (nav [1, 1, 1, 1, 1, 0, 0] B) (.block 0 (.loop (.seq (nav (pBB ++ [0]) B) (.seq (.block 1 (.seq (.seq (nav (pBB ++ [1, 0, 0, 0, 0]) B) (.block 2 (.loop (nav pIB B)))) (nav (pBB ++ [1, 0, 0, 1]) B))) (nav (pBB ++ [1, 1]) B))))))
  (.seq (nav [1, 1, 1, 1, 1, 1, 0] B) (.seq (.seq (nav [1, 1, 1, 1, 1, 1, 1, 0, 0] B) (.block 4 (.loop (nav pCB B)))) (nav [1, 1, 1, 1, 1, 1, 1, 1] B)))))))) ) := by kernel_rfl
theorem an : ∀ p ∈ ([] : List Prop), p := fun _ h => nomatch h
theorem ac {a : Prop} {l : List Prop} (h : a) (hl : ∀ p ∈ l, p) : ∀ p ∈ a :: l, p := fun p hp => by
  rcases List.mem_cons.1 hp with rfl | hp
  · exact h
  · exact hl p hp
section
variable {W : World}
abbrev Gk (W : World) (p : List Nat) (L : List AObj) (K : List (Nat × Value)) (e : AExit) (L' : List AObj) (K' : List (Nat × Value)) : Prop := GoesK Tryz.prog W (nav p B) NT L K e L' K'
theorem gs {p : List Nat} {m : List (Nat × Bool)} {ks : List Nat} {L L' : List AObj} {K K' : List (Nat × Value)} {π : List Ans} {e : AExit} {cs : List Prop} (hok : okCode (nav p B) = true) (h : RD p m ks L K π e L' K' cs) (hc : ∀ p ∈ cs, p) : Gk W p L K e L' K' :=
  pieceS_goes E_sound good hok h hc an
theorem w64 {x : Int} (h1 : -9223372036854775808 ≤ x) (h2 : x < 9223372036854775808) : wrapF .i64 x = x := wrap64 h1 h2
theorem is_c {x y : Int} (h : x = y) (h1 : -1000 ≤ y) (h2 : y < 1000) : isW x y := by
  subst h; unfold isW; rw [w64 (by omega) (by omega)]
theorem lt_y {i q : Int} (h : i < q) : ltC i q true := decide_eq_true h
theorem lt_n {i q : Int} (h : ¬ i < q) : ltC i q false := decide_eq_false h
theorem ge_n {h m : Int} (h0 : 0 ≤ h) (h1 : h + 1 < m) (h2 : m ≤ 1000) : geC h m false := by
  unfold geC; rw [w64 (by omega) (by omega)]; exact decide_eq_false (by omega)
theorem ge_y {h m : Int} (h0 : 0 ≤ h) (h1 : h + 1 = m) (h2 : m ≤ 1000) : geC h m true := by
  unfold geC; rw [w64 (by omega) (by omega)]; exact decide_eq_true (by omega)
theorem m_0 {m : Int} (h : 0 < m) : m0 m := decide_eq_false (by omega)
theorem third {t : Int} (h0 : 1 ≤ t) (h1 : t ≤ 30) : wrapF .i64 ((3 * t).tdiv 3) = t := by
  rw [Int.tdiv_eq_ediv_of_nonneg (by omega), w64 (by omega) (by omega)]; omega
theorem th_n {d t : Int} (h0 : 1 ≤ t) (h1 : t ≤ 30) (hd : 0 ≤ d) (h : d + 1 < t) : thC d (3 * t) false := by
  unfold thC; rw [third h0 h1, w64 (by omega) (by omega)]; exact decide_eq_false (by omega)
theorem th_y {d t : Int} (h0 : 1 ≤ t) (h1 : t ≤ 30) (hd : 0 ≤ d) (h2 : d < t) (h : ¬ d + 1 < t) : thC d (3 * t) true := by
  unfold thC; rw [third h0 h1, w64 (by omega) (by omega)]; exact decide_eq_true (by omega)
theorem min_l {t : Int} (h1 : t ≤ 30) : minV (3 * t) = 3 * t := by unfold minV; rw [if_neg (by omega)]
/-- The rounds in which nobody speaks. -/
theorem loopI {t q tu : Int} (h1 : 1 ≤ t) (h2 : t ≤ 30) (hq0 : 0 ≤ q) (hq : q ≤ 3 * t - 1) : ∀ (k : Nat) (i d : Int), 0 ≤ i → i ≤ q → 0 ≤ d → d < t → q ≤ i + k →
    ∃ d', 0 ≤ d' ∧ d' < t ∧ GoesL Tryz.prog W (k + 1) (nav pIB B) (hk G (LS (3 * t) (3 * t) i d)) (tk NT (KI t q tu i)) (.exit 2) (hk G (LS (3 * t) (3 * t) q d')) (tk NT (KI t q tu q)) := by
  intro k
  induction k with
  | zero =>
    intro i d hi hiq hd hdt hk
    have : i = q := by omega
    subst this
    exact ⟨d, hd, hdt, .exit (gs okI (i_end i t (3 * t) (3 * t) i d tu i) (ac (lt_n (by omega)) an))⟩
  | succ k ih =>
    intro i d hi hiq hd hdt hk
    by_cases h : i < q
    case neg =>
      have : i = q := by omega
      subst this
      exact ⟨d, hd, hdt, .exit (gs okI (i_end i t (3 * t) (3 * t) i d tu i) (ac (lt_n (by omega)) an))⟩
    by_cases h3 : d + 1 < t
    · have r := gs (W := W) okI (i_no q t (3 * t) (3 * t) i d tu i) (ac (th_n h1 h2 hd h3) (ac (ge_n hi (by omega) (by omega)) (ac (m_0 (by omega)) (ac (lt_y h) an))))
      rw [w64 (x := i + 1) (by omega) (by omega), w64 (x := d + 1) (by omega) (by omega)] at r
      obtain ⟨d', e1, e2, e3⟩ := ih (i + 1) (d + 1) (by omega) (by omega) (by omega) h3 (by omega)
      exact ⟨d', e1, e2, .next r e3⟩
    · have r := gs (W := W) okI (i_say q t (3 * t) (3 * t) i d tu i) (ac (th_y h1 h2 hd hdt h3) (ac (ge_n hi (by omega) (by omega)) (ac (m_0 (by omega)) (ac (lt_y h) an))))
      rw [w64 (x := i + 1) (by omega) (by omega)] at r
      obtain ⟨d', e1, e2, e3⟩ := ih (i + 1) 0 (by omega) (by omega) (by omega) (by omega) (by omega)
      exact ⟨d', e1, e2, .next r e3⟩
/-- The rounds until the end: what is said, times the third, and what is since then, is all that went by. -/
theorem loopC {t d0 : Int} (h1 : 1 ≤ t) (h2 : t ≤ 30) : ∀ (k : Nat) (i d sd : Int), 1 ≤ i → i ≤ 3 * t → 0 ≤ d → d < t → 0 ≤ sd → sd ≤ i → sd * t + d = d0 + (i - 1) → 3 * t ≤ i + k →
    ∃ d' sd', 0 ≤ d' ∧ d' < t ∧ 0 ≤ sd' ∧ sd' * t + d' = d0 + (3 * t - 1) ∧ GoesL Tryz.prog W (k + 1) (nav pCB B) (hk G (LS (3 * t) (3 * t) (i - 1) d)) (tk NT (KC t sd i)) (.exit 4) (hk G (LS (3 * t) (3 * t) (3 * t - 1) d')) (tk NT (KC t sd' (3 * t))) := by
  intro k
  induction k with
  | zero =>
    intro i d sd hi hit hd hdt hs hsi he hk
    have : i = 3 * t := by omega
    subst this
    exact ⟨d, sd, hd, hdt, hs, he, .exit (gs okC (c_end t (3 * t) (3 * t) (3 * t - 1) d sd (3 * t)) (ac (lt_n (by omega)) (ac (is_c rfl (by omega) (by omega)) an)))⟩
  | succ k ih =>
    intro i d sd hi hit hd hdt hs hsi he hk
    by_cases h : i < 3 * t
    case neg =>
      have : i = 3 * t := by omega
      subst this
      exact ⟨d, sd, hd, hdt, hs, he, .exit (gs okC (c_end t (3 * t) (3 * t) (3 * t - 1) d sd (3 * t)) (ac (lt_n (by omega)) (ac (is_c rfl (by omega) (by omega)) an)))⟩
    by_cases h3 : d + 1 < t
    · have r := gs (W := W) okC (c_no t (3 * t) (3 * t) (i - 1) d sd i) (ac (th_n h1 h2 hd h3) (ac (ge_n (by omega) (by omega) (by omega)) (ac (m_0 (by omega)) (ac (lt_y h) (ac (is_c rfl (by omega) (by omega)) an)))))
      rw [w64 (x := i - 1 + 1) (by omega) (by omega), w64 (x := d + 1) (by omega) (by omega), w64 (x := i + 1) (by omega) (by omega), show i - 1 + 1 = i + 1 - 1 by omega] at r
      obtain ⟨d', sd', e1, e2, e3, e4, e5⟩ := ih (i + 1) (d + 1) sd (by omega) (by omega) (by omega) h3 hs (by omega) (by omega) (by omega)
      exact ⟨d', sd', e1, e2, e3, e4, .next r e5⟩
    · have r := gs (W := W) okC (c_say t (3 * t) (3 * t) (i - 1) d sd i) (ac (th_y h1 h2 hd hdt h3) (ac (ge_n (by omega) (by omega) (by omega)) (ac (m_0 (by omega)) (ac (lt_y h) (ac (is_c rfl (by omega) (by omega)) an)))))
      rw [w64 (x := i - 1 + 1) (by omega) (by omega), w64 (x := sd + 1) (by omega) (by omega), w64 (x := i + 1) (by omega) (by omega), show i - 1 + 1 = i + 1 - 1 by omega] at r
      obtain ⟨d', sd', e1, e2, e3, e4, e5⟩ := ih (i + 1) 0 (sd + 1) (by omega) (by omega) (by omega) (by omega) (by omega) (by omega) (by rw [Int.add_mul]; omega) (by omega)
      exact ⟨d', sd', e1, e2, e3, e4, .next r e5⟩
theorem said {t d0 d sd : Int} (h1 : 1 ≤ t) (h2 : t ≤ 30) (h3 : 0 ≤ d0) (h4 : d < t) (he : sd * t + d = d0 + (3 * t - 1)) (hs : 0 ≤ sd) : sd ≥ 2 := by
  by_cases h : sd ≥ 2
  · exact h
  · exfalso
    have h5 : sd = 0 ∨ sd = 1 := by omega
    rcases h5 with rfl | rfl <;> omega
/-- One turn: nobody speaks for so long, then one does. -/
theorem GoesK.turnOf {L : Int} {t q tu d d' h : Int} (g1 : Gk W (pBB ++ [0]) (LS L L h d) (K3 t q tu) .normal (LS L L h d) (K3 t q tu)) (g2 : Gk W (pBB ++ [1, 0, 0, 0, 0]) (LS L L h d) (K3 t q tu) .normal (LS L L h d) (KI t q tu 0))
    {k : Nat} (g3 : GoesL Tryz.prog W (k + 1) (nav pIB B) (hk G (LS L L h d)) (tk NT (KI t q tu 0)) (.exit 2) (hk G (LS L L q d')) (tk NT (KI t q tu q)))
    (g4 : Gk W (pBB ++ [1, 0, 0, 1]) (LS L L q d') (KI t q tu q) .normal (LS L L 0 d') (K3 t q tu)) (g5 : Gk W (pBB ++ [1, 1]) (LS L L 0 d') (K3 t q tu) .normal (LS L L 0 d') (K3 t q (tu + 1))) :
    GoesK Tryz.prog W (.seq (nav (pBB ++ [0]) B) (.seq (.block 1 (.seq (.seq (nav (pBB ++ [1, 0, 0, 0, 0]) B) (.block 2 (.loop (nav pIB B)))) (nav (pBB ++ [1, 0, 0, 1]) B))) (nav (pBB ++ [1, 1]) B))) NT (LS L L h d) (K3 t q tu) .normal (LS L L 0 d') (K3 t q (tu + 1)) :=
  .seq g1 (.seq (.block (.seq (.seq g2 (.blockExit (GoesL.loop g3))) g4)) g5)
theorem whole (a b : Int) : ∃ c, Tryz.f3.body = some c ∧ GoesK Tryz.prog W c NT [] (K0 a b) .ret [] [(4, .bool true)] := by
  refine ⟨_, shape, ?_⟩
  obtain ⟨n, hn⟩ : ∃ n : Int, withinV a 0 29 = n := ⟨_, rfl⟩
  have n0 : 0 ≤ n ∧ n ≤ 29 := by unfold withinV at hn; omega
  obtain ⟨t, ht⟩ : ∃ t : Int, 1 + n = t := ⟨_, rfl⟩
  have h1 : 1 ≤ t := by omega
  have h2 : t ≤ 30 := by omega
  obtain ⟨q, hq⟩ : ∃ q : Int, withinV b 0 (3 * t - 1) = q := ⟨_, rfl⟩
  have q0 : 0 ≤ q ∧ q ≤ 3 * t - 1 := by
    unfold withinV at hq
    have := Int.emod_nonneg b (b := 3 * t - 1 - 0 + 1) (by omega)
    have := Int.emod_lt_of_pos b (b := 3 * t - 1 - 0 + 1) (by omega)
    omega
  have iL : isW (3 * t) (3 * t) := is_c rfl (by omega) (by omega)
  have T : ∀ {x : Prop} [Decidable x], x → decide x = true := fun h => decide_eq_true h
  have F : ∀ {x : Prop} [Decidable x], ¬ x → decide x = false := fun h => decide_eq_false h
  have up : ∀ p ∈ upC (3 * t) ++ [isW (3 * t) (3 * t)], p := by
    have u1 : (!decide (3 * t ≤ 65535)) = false := by rw [T (by omega)]; rfl
    have u2 : decide (3 * t = 0) = false := F (by omega)
    have u3 : decide (3 * t ≥ 3) = true := T (by omega)
    have u4 : decide (3 * t > 65535) = false := F (by omega)
    have u5 : decide (3 * t < 3) = false := F (by omega)
    have u6 : (!decide (3 * t = 0)) = true := by rw [u2]; rfl
    unfold upC
    exact ac u1 (ac u1 (ac u1 (ac u1 (ac u2 (ac u3 (ac u2 (ac u3 (ac u3 (ac u2 (ac u2 (ac u2 (ac u4 (ac u5 (ac u5 (ac u5 (ac u6 (ac u6 (ac u6 (ac iL an)))))))))))))))))))
  have hup := gs (W := W) ok2 (r_up a b t (3 * t)) up
  rw [min_l h2] at hup
  have iW1 : inW a 0 29 n := by unfold inW; rw [hn]
  have iT : isW (1 + n) t := is_c ht (by omega) (by omega)
  have wB : withinB 0 (3 * t - 1) = true := by
    unfold withinB
    rw [T (by omega), T (by omega), T (by omega)]; rfl
  have iW2 : inW b 0 (3 * t - 1) q := by unfold inW; rw [hq]
  refine .seq (gs ok0 (r_0 a b) an) (.seq (gs ok1 (r_t a b n t) (ac iT (ac iW1 an))) (.seq hup (.seq (gs ok3 (r_nil b t (3 * t) (3 * t)) an)
    (.seq (gs ok4 (r_q b t (3 * t) (3 * t) (3 * t - 1) q) (ac iW2 (ac wB (ac (is_c rfl (by omega) (by omega)) (ac iL an))))) ?_))))
  obtain ⟨k, hk⟩ : ∃ k : Nat, (k : Int) = q := ⟨q.toNat, by omega⟩
  obtain ⟨d1, a1, a2, a3⟩ := loopI (W := W) (t := t) (q := q) (tu := 0) h1 h2 q0.1 q0.2 k 0 0 (by omega) q0.1 (by omega) (by omega) (by omega)
  obtain ⟨d2, b1, b2, b3⟩ := loopI (W := W) (t := t) (q := q) (tu := 1) h1 h2 q0.1 q0.2 k 0 d1 (by omega) q0.1 a1 a2 (by omega)
  obtain ⟨k2, hk2⟩ : ∃ k : Nat, (k : Int) = 3 * t := ⟨(3 * t).toNat, by omega⟩
  obtain ⟨d3, sd, c1, c2, c3, c4, c5⟩ := loopC (W := W) (t := t) (d0 := d2) h1 h2 k2 1 d2 0 (by omega) (by omega) b1 b2 (by omega) (by omega) (by omega) (by omega)
  have hsd : decide (sd ≥ 2) = true := T (said h1 h2 b1 c2 c4 c3)
  have turn0 := GoesK.turnOf (W := W) (tu := 0) (gs ok6 (r_tu0 q t (3 * t) (3 * t) 0 0) an) (gs ok9 (r_i0 q t (3 * t) (3 * t) 0 0 0) an) a3 (gs ok8 (r_fd0 q t (3 * t) (3 * t) q d1 q) an) (gs ok7 (r_nx0 q t (3 * t) (3 * t) 0 d1) an)
  have turn1 := GoesK.turnOf (W := W) (tu := 1) (gs ok6 (r_tu1 q t (3 * t) (3 * t) 0 d1) an) (gs ok9 (r_i0 q t (3 * t) (3 * t) 0 d1 1) an) b3 (gs ok8 (r_fd1 q t (3 * t) (3 * t) q d2 q) an) (gs ok7 (r_nx1 q t (3 * t) (3 * t) 0 d2) an)
  have outer := GoesL.next turn0 (GoesL.next turn1 (GoesL.exit (n := 0) (.seqExit (d := .seq (.block 1 (.seq (.seq (nav (pBB ++ [1, 0, 0, 0, 0]) B) (.block 2 (.loop (nav pIB B)))) (nav (pBB ++ [1, 0, 0, 1]) B))) (nav (pBB ++ [1, 1]) B)) (gs (W := W) ok6 (r_tu2 q t (3 * t) (3 * t) 0 d2) an))))
  refine .seq (.seq (gs ok5 (r_tu q t (3 * t) (3 * t)) an) (.blockExit (GoesL.loop outer))) ?_
  refine .seq (gs okS (r_sd t (3 * t) (3 * t) 0 d2) an) (.seq (.seq (gs okR (r_c1 t (3 * t) (3 * t) 0 d2) an) (.blockExit (GoesL.loop c5)))
    (gs okT (r_end t (3 * t) (3 * t) (3 * t - 1) d3 sd (3 * t)) (ac hsd (ac hsd (ac hsd (ac hsd (ac (ge_y (by omega) (by omega) (by omega)) (ac (m_0 (by omega)) an))))))))
end
theorem walk (a b : Int) (_ : (Lit.int .i64 a).wf = true) (_ : (Lit.int .i64 b).wf = true) (W : World) : Calls Tryz.prog 3 #[.int .i64 a, .int .i64 b] W fun e W' => e = .returned (.bool true) ∧ Below W.heap.size W W' := by
  obtain ⟨c, hb, hg⟩ := whole (W := W) a b
  exact GoesK.calls (ps := []) (args := [.int .i64 a, .int .i64 b]) (args' := [.int .i64 a, .int .i64 b]) (K' := [(4, .bool true)]) (L' := []) (v := .bool true) (s' := ⟨hk G [], 0, none, []⟩) Tryz.func3 hb (Nat.le_of_ble_eq_true (by kernel_rfl)) (fun p hp => nomatch hp) (Nat.le_of_ble_eq_true (by kernel_rfl)) (.cons (.flat rfl) (.cons (.flat rfl) .nil)) hg (.inl rfl) (by kernel_rfl) rfl rfl
end SessC
end Go.Proofs.YtchondbecflejaaGreat
