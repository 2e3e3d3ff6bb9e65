/- P4.1: what is written is read, one behind the other, and nothing is left: the walk, whole. -/
import Derived.Test.YtddlejbcnjmfmaaWk
namespace Go.Proofs.Ytddlejbcnjmfmaa
open Go Go.Ev Go.RowKit
set_option maxRecDepth 100000
set_option linter.unusedVariables false
set_option linter.unusedSimpArgs false
set_option linter.unnecessarySimpa false
namespace WireBk
theorem q3_val {o : Nat} (h : o ≤ 100000) : q3 o = Int.ofNat (o + 7) := by
  unfold q3
  rw [E1 o h, E2 o h, E3 o h]; rfl
theorem q4_val {o nb : Nat} (h : o ≤ 100000) (h2 : nb ≤ 50) : q4 o (nb : Int) = Int.ofNat (o + 7 + nb) := by
  unfold q4
  rw [E1 o h, E2 o h, E3 o h, E4 o nb h h2]; rfl
section
variable {W : World} {n : Nat} (E : Elems W n)
theorem r_round {i : Nat} (hi : i < rounds n) :
    GoesQ Try.prog W (pinL (E.AB i) E.l0 (E.l1 i)) (pinL (E.AB (i + 1)) E.l0 (E.l1 (i + 1))) RB (HS (E.AB i) [rObj (E.pre (rounds n)).length (E.pre i).length, cObj (rowU (E.pre (rounds n)))]) (tk NT (KI n (Int.ofNat i))) .normal
      (HS (E.AB (i + 1)) [rObj (E.pre (rounds n)).length (E.pre (i + 1)).length, cObj (rowU (E.pre (rounds n)))]) (tk NT (KI n (Int.ofNat (i + 1)))) := by
  obtain ⟨T, rfl, h, hds⟩ := facts E hi
  have hin : i < n := by unfold rounds at hi; omega
  have h30 : i < 30 := by unfold rounds at hi; omega
  have pl := rowU_plain (E.pre (rounds n))
  have ho : (E.pre i).length ≤ 100000 := by have := pre_len E i; omega
  have hb := b_c E hin
  have g1 := gq (E.pins i) ok_d0 (r_go n (E.pre (rounds n)).length i 0 (Int.ofNat (E.pre i).length) (E.AA i) (rowU (E.pre (rounds n))) ((E.BS i).map u8)) (ac (l30_t h30) (ac (lt_t hin) (ac (lt_t hin) (ac (lt_t hin) an)))) (ac pl an)
  have hpre : (E.pre (i + 1)).length = (E.pre i).length + 7 + ((E.BS i).take 50).length := by simp only [Elems.pre, Elems.enc, num, List.length_append, List.length_cons, List.length_nil]; omega
  have last : ∀ q, q = (E.pre (i + 1)).length → Gs E i (i + 1) (pR ++ [1, 1]) [rEnd (E.pre (rounds n)).length (Int.ofNat q), cObj (rowU (E.pre (rounds n)))] (KI n (Int.ofNat i)) .normal [rObj (E.pre (rounds n)).length (E.pre (i + 1)).length, cObj (rowU (E.pre (rounds n)))] (KI n (Int.ofNat (i + 1))) := by
    intro q hq
    subst hq
    have r := r_next n (E.pre (rounds n)).length i (Int.ofNat (E.pre (i + 1)).length) (E.AA i) (rowU (E.pre (rounds n))) (E.AA (i + 1)) ((E.BS i).map u8) ((E.BS (i + 1)).map u8)
    rw [up i (by omega)] at r
    exact gn (l1 := E.l1 i) (E.pins (i + 1)) ok_d4 r an (ac pl an)
  have fine : ∀ q, Gs E i i (pR ++ [1, 0, 0, 1, 1]) [rEnd (E.pre (rounds n)).length q, cObj (rowU (E.pre (rounds n)))] (KE n i) .normal [rEnd (E.pre (rounds n)).length q, cObj (rowU (E.pre (rounds n)))] (KI n (Int.ofNat i)) :=
    fun q => gq (E.pins i) ok_d3 (r_fine n (E.pre (rounds n)).length i 0 q (E.AA i) (rowU (E.pre (rounds n))) ((E.BS i).map u8)) an (ac pl an)
  have hB : (rowObj ((E.BS i).map u8)).cells.size = (E.BS i).length := by simp [rowObj]
  have hBe : ∀ m, m ≤ (E.BS i).length → (rowObj ((E.BS i).map u8)).cells.extract 0 (0 + m) = rowU ((E.BS i).take m) := by
    intro m hm
    have := exU (E.BS i) 0 m
    simpa [rowU, rowObj] using this
  obtain ⟨l, hl0⟩ := bytes_of ((E.BS i).take 50)
  have hb1 : bytesOf (rowU ((E.BS i).take 50)).toList = some l := hl0
  rcases E.kind i hin with ⟨k1, k2⟩ | k1
  · rw [k1] at hb
    have z : ((E.BS i).take 50).length = 0 := by rw [k2]; rfl
    have g2 := gq (E.pins i) ok_d1 (r_cutn n (E.pre (rounds n)).length i 0 (Int.ofNat (E.pre i).length) (E.AA i) (rowU (E.pre (rounds n))) ((E.BS i).map u8)) (ac hb (ac (n_c hin) an)) (ac pl an)
    have g3 := gq (E.pins i) ok_d2 (n_none n _ _ i ((E.BS i).take 50).length (E.X i) _ _ _ _ _ _ _ (E.AA i) _ ((E.BS i).map u8) #[] #[] [] []) (ac (f_c1 h) (ac (f_c1 h) (ac (f_c1 h) (ac (f_c69 h) (ac (f_c1 h) (ac (f_c1 h) (ac (f_c1 h) (ac (f_c1 h) (ac (f_c1 h) (ac (f_c1 h) (ac (f_c70 h) (ac (f_c70 h) (ac (f_c14 h) (ac f_c15 (ac (f_c16 h) (ac (f_c17 h) (ac (f_c18 h) (ac f_c19 (ac (f_c20 h) (ac (f_c21 h) (ac (f_c22 h) (ac f_c23 (ac (f_c24 h) (ac (f_c25 h) (ac (f_c26 h) (ac f_c27 (ac (f_c28 h) (ac (f_c29 h) (ac (f_c30 h) (ac (f_c31 h) (ac (f_c32 h) (ac (f_c33 h) (ac (f_c70 h) (ac (f_c70 h) (ac (f_c34 h) (ac (f_c70 h) (ac (f_c70 h) (ac (f_c35 h) (ac (f_c70 h) (ac (f_c70 h) (ac (f_c70 h) (ac (f_c70 h) (ac (f_c71 h) (ac (f_c71 h) (ac (f_c37 h) (ac f_c38 (ac (f_c39 h) (ac (f_c40 h) (ac (f_c41 h) (ac f_c42 (ac (f_c43 h) (ac (f_c44 h) (ac (f_c45 h) (ac (f_c46 h) (ac (f_c47 h) (ac (f_c48 h) (ac (f_c71 h) (ac (f_c71 h) (ac (f_c34 h) (ac (f_c71 h) (ac (f_c71 h) (ac (f_c35 h) (ac (f_c71 h) (ac (f_c71 h) (ac (f_c71 h) (ac (f_c71 h) (ac (f_c50 h) (ac f_c51 (ac (f_c52 h) (ac (f_c53 h) (ac (f_c54 h) (ac (f_c55 h) (ac (f_c56 h) (ac (f_c57 h) (ac (f_c34 h) (ac (f_c35 h) an)))))))))))))))))))))))))))))))))))))))))))))))))))))))))))))))))))))))))))) (ac pl an)
    rw [q3_val ho] at g3
    exact .seq g1 (.seq (.block (.seq g2 (.seq g3 (fine _)))) (last _ (by omega)))
  · by_cases big : (E.BS i).length > 50
    · rw [k1] at hb
      have e50 : ((E.BS i).take 50).length = 50 := by simp; omega
      rw [e50] at h hds hpre
      have g2 := gq (E.pins i) ok_d1 (r_cutb n (E.pre (rounds n)).length i (E.BS i).length (Int.ofNat (E.pre i).length) (E.AA i) (rowU (E.pre (rounds n))) ((E.BS i).map u8)) (ac (decide_eq_true (by omega)) (ac (decide_eq_true (by omega)) (ac hb (ac (n_c hin) an)))) (ac pl an)
      have hcs : 0 + 50 ≤ (rowObj ((E.BS i).map u8)).cells.size ∧ (rowObj ((E.BS i).map u8)).cells.extract 0 (0 + 50) = rowU ((E.BS i).take 50) := ⟨by omega, hBe 50 (by omega)⟩
      have hn : 1 ≤ 50 := by omega
      have hl : l = l := rfl
      have hb2 := hb1
      have g3 := gq (E.pins i) ok_d2 (n_big n _ _ i 50 (E.X i) _ _ _ _ _ _ _ (E.AA i) _ ((E.BS i).map u8) (rowU ((E.BS i).take 50)) (rowU ((E.BS i).take 50)) l l) (ac (f_c0 hl) (ac (f_c0 hl) (ac (f_c0 hl) (ac (f_c0 hl) (ac (f_c1 h) (ac (f_c1 h) (ac hb2 (ac (f_c3 (cs := rowU ((E.BS i).take 50)) (ds := rowU ((E.BS i).take 50)) (l := l) (k := l) h hds) (ac (f_c1 h) (ac (f_c4 (cs := rowU ((E.BS i).take 50)) (ds := rowU ((E.BS i).take 50)) (l := l) (k := l) h) (ac (f_c5 (cs := rowU ((E.BS i).take 50)) (ds := rowU ((E.BS i).take 50)) (l := l) (k := l) h hn) (ac (f_c6 (cs := rowU ((E.BS i).take 50)) (ds := rowU ((E.BS i).take 50)) (l := l) (k := l) h) (ac (f_c7 (cs := rowU ((E.BS i).take 50)) (ds := rowU ((E.BS i).take 50)) (l := l) (k := l) h) (ac (f_c8 (cs := rowU ((E.BS i).take 50)) (ds := rowU ((E.BS i).take 50)) (l := l) (k := l) h) (ac (f_c10 (cs := rowU ((E.BS i).take 50)) (ds := rowU ((E.BS i).take 50)) (l := l) (k := l) h) (ac (f_c1 h) (ac hb1 (ac hcs (ac (f_c1 h) (ac (f_c1 h) (ac (f_c1 h) (ac (f_c1 h) (ac (f_c1 h) (ac (f_c70 h) (ac (f_c70 h) (ac (f_c14 h) (ac f_c15 (ac (f_c16 h) (ac (f_c17 h) (ac (f_c18 h) (ac f_c19 (ac (f_c20 h) (ac (f_c21 h) (ac (f_c22 h) (ac f_c23 (ac (f_c24 h) (ac (f_c25 h) (ac (f_c26 h) (ac f_c27 (ac (f_c28 h) (ac (f_c29 h) (ac (f_c30 h) (ac (f_c31 h) (ac (f_c32 h) (ac (f_c33 h) (ac (f_c70 h) (ac (f_c70 h) (ac (f_c34 h) (ac (f_c70 h) (ac (f_c70 h) (ac (f_c35 h) (ac (f_c70 h) (ac (f_c70 h) (ac (f_c70 h) (ac (f_c70 h) (ac (f_c71 h) (ac (f_c71 h) (ac (f_c37 h) (ac f_c38 (ac (f_c39 h) (ac (f_c40 h) (ac (f_c41 h) (ac f_c42 (ac (f_c43 h) (ac (f_c44 h) (ac (f_c45 h) (ac (f_c46 h) (ac (f_c47 h) (ac (f_c48 h) (ac (f_c71 h) (ac (f_c71 h) (ac (f_c34 h) (ac (f_c71 h) (ac (f_c71 h) (ac (f_c35 h) (ac (f_c71 h) (ac (f_c71 h) (ac (f_c71 h) (ac (f_c71 h) (ac (f_c50 h) (ac f_c51 (ac (f_c52 h) (ac (f_c53 h) (ac (f_c54 h) (ac (f_c55 h) (ac (f_c56 h) (ac (f_c57 h) (ac (f_c34 h) (ac (f_c35 h) an))))))))))))))))))))))))))))))))))))))))))))))))))))))))))))))))))))))))))))))))))))))))) (ac pl an)
      have q := q4_val (o := (E.pre i).length) (nb := 50) ho (by omega)
      rw [show ((50 : Nat) : Int) = 50 from rfl] at q
      rw [q] at g3
      exact .seq g1 (.seq (.block (.seq g2 (.seq g3 (fine _)))) (last _ (by omega)))
    · have et : ((E.BS i).take 50).length = (E.BS i).length := by simp; omega
      have ht : (E.BS i).take 50 = (E.BS i).take (E.BS i).length := by rw [List.take_of_length_le (by omega), List.take_length]
      rw [k1, ← et] at hb
      have g2 := gq (E.pins i) ok_d1 (r_cut n (E.pre (rounds n)).length i ((E.BS i).take 50).length (Int.ofNat (E.pre i).length) (E.AA i) (rowU (E.pre (rounds n))) ((E.BS i).map u8)) (ac (decide_eq_false (by omega)) (ac hb (ac (n_c hin) an))) (ac pl an)
      have hcs : 0 + ((E.BS i).take 50).length ≤ (rowObj ((E.BS i).map u8)).cells.size ∧ (rowObj ((E.BS i).map u8)).cells.extract 0 (0 + ((E.BS i).take 50).length) = rowU ((E.BS i).take 50) := ⟨by omega, by rw [hBe _ (by omega), et, ← ht]⟩
      by_cases zero : ((E.BS i).take 50).length = 0
      · have hn := zero
        have hl : l = [] := by
          have : (E.BS i).take 50 = [] := List.length_eq_zero_iff.1 zero
          rw [this] at hl0
          simpa [bytesOf] using hl0.symm
        have g3 := gq (E.pins i) ok_d2 (n_zero n _ _ i ((E.BS i).take 50).length (E.X i) _ _ _ _ _ _ _ (E.AA i) _ ((E.BS i).map u8) (rowU ((E.BS i).take 50)) #[] l []) (ac (f_c67 hl) (ac (f_c67 hl) (ac (f_c67 hl) (ac (f_c67 hl) (ac (f_c1 h) (ac (f_c1 h) (ac (f_c1 h) (ac (f_c68 hn) (ac (f_c10 h) (ac (f_c1 h) (ac hb1 (ac hcs (ac (f_c1 h) (ac (f_c1 h) (ac (f_c1 h) (ac (f_c1 h) (ac (f_c1 h) (ac (f_c70 h) (ac (f_c70 h) (ac (f_c14 h) (ac f_c15 (ac (f_c16 h) (ac (f_c17 h) (ac (f_c18 h) (ac f_c19 (ac (f_c20 h) (ac (f_c21 h) (ac (f_c22 h) (ac f_c23 (ac (f_c24 h) (ac (f_c25 h) (ac (f_c26 h) (ac f_c27 (ac (f_c28 h) (ac (f_c29 h) (ac (f_c30 h) (ac (f_c31 h) (ac (f_c32 h) (ac (f_c33 h) (ac (f_c70 h) (ac (f_c70 h) (ac (f_c34 h) (ac (f_c70 h) (ac (f_c70 h) (ac (f_c35 h) (ac (f_c70 h) (ac (f_c70 h) (ac (f_c70 h) (ac (f_c70 h) (ac (f_c71 h) (ac (f_c71 h) (ac (f_c37 h) (ac f_c38 (ac (f_c39 h) (ac (f_c40 h) (ac (f_c41 h) (ac f_c42 (ac (f_c43 h) (ac (f_c44 h) (ac (f_c45 h) (ac (f_c46 h) (ac (f_c47 h) (ac (f_c48 h) (ac (f_c71 h) (ac (f_c71 h) (ac (f_c34 h) (ac (f_c71 h) (ac (f_c71 h) (ac (f_c35 h) (ac (f_c71 h) (ac (f_c71 h) (ac (f_c71 h) (ac (f_c71 h) (ac (f_c50 h) (ac f_c51 (ac (f_c52 h) (ac (f_c53 h) (ac (f_c54 h) (ac (f_c55 h) (ac (f_c56 h) (ac (f_c57 h) (ac (f_c34 h) (ac (f_c35 h) an))))))))))))))))))))))))))))))))))))))))))))))))))))))))))))))))))))))))))))))))))) (ac pl an)
        rw [q3_val ho] at g3
        exact .seq g1 (.seq (.block (.seq g2 (.seq g3 (fine _)))) (last _ (by omega)))
      · have hn : 1 ≤ ((E.BS i).take 50).length := by omega
        have hl : l = l := rfl
        have hb2 := hb1
        have g3 := gq (E.pins i) ok_d2 (n_pos n _ _ i ((E.BS i).take 50).length (E.X i) _ _ _ _ _ _ _ (E.AA i) _ ((E.BS i).map u8) (rowU ((E.BS i).take 50)) (rowU ((E.BS i).take 50)) l l) (ac (f_c0 hl) (ac (f_c0 hl) (ac (f_c0 hl) (ac (f_c0 hl) (ac (f_c1 h) (ac (f_c1 h) (ac hb2 (ac (f_c3 h hds) (ac (f_c1 h) (ac (f_c4 h) (ac (f_c5 h hn) (ac (f_c6 h) (ac (f_c7 h) (ac (f_c8 h) (ac (f_c9 hn) (ac (f_c10 h) (ac (f_c1 h) (ac hb1 (ac hcs (ac (f_c1 h) (ac (f_c1 h) (ac (f_c1 h) (ac (f_c1 h) (ac (f_c1 h) (ac (f_c70 h) (ac (f_c70 h) (ac (f_c14 h) (ac f_c15 (ac (f_c16 h) (ac (f_c17 h) (ac (f_c18 h) (ac f_c19 (ac (f_c20 h) (ac (f_c21 h) (ac (f_c22 h) (ac f_c23 (ac (f_c24 h) (ac (f_c25 h) (ac (f_c26 h) (ac f_c27 (ac (f_c28 h) (ac (f_c29 h) (ac (f_c30 h) (ac (f_c31 h) (ac (f_c32 h) (ac (f_c33 h) (ac (f_c70 h) (ac (f_c70 h) (ac (f_c34 h) (ac (f_c70 h) (ac (f_c70 h) (ac (f_c35 h) (ac (f_c70 h) (ac (f_c70 h) (ac (f_c70 h) (ac (f_c70 h) (ac (f_c71 h) (ac (f_c71 h) (ac (f_c37 h) (ac f_c38 (ac (f_c39 h) (ac (f_c40 h) (ac (f_c41 h) (ac f_c42 (ac (f_c43 h) (ac (f_c44 h) (ac (f_c45 h) (ac (f_c46 h) (ac (f_c47 h) (ac (f_c48 h) (ac (f_c71 h) (ac (f_c71 h) (ac (f_c34 h) (ac (f_c71 h) (ac (f_c71 h) (ac (f_c35 h) (ac (f_c71 h) (ac (f_c71 h) (ac (f_c71 h) (ac (f_c71 h) (ac (f_c50 h) (ac f_c51 (ac (f_c52 h) (ac (f_c53 h) (ac (f_c54 h) (ac (f_c55 h) (ac (f_c56 h) (ac (f_c57 h) (ac (f_c34 h) (ac (f_c35 h) an)))))))))))))))))))))))))))))))))))))))))))))))))))))))))))))))))))))))))))))))))))))))))) (ac pl an)
        rw [q4_val ho h.small] at g3
        exact .seq g1 (.seq (.block (.seq g2 (.seq g3 (fine _)))) (last _ (by omega)))
theorem r_loop : ∀ (k i : Nat), i ≤ rounds n → rounds n ≤ i + k →
    GoesQL Try.prog W (pinL (E.AB i) E.l0 (E.l1 i)) (pinL (E.AB (rounds n)) E.l0 (E.l1 (rounds n))) (k + 1) RB (HS (E.AB i) [rObj (E.pre (rounds n)).length (E.pre i).length, cObj (rowU (E.pre (rounds n)))]) (tk NT (KI n (Int.ofNat i))) (.exit 2)
      (HS (E.AB (rounds n)) [rObj (E.pre (rounds n)).length (E.pre (rounds n)).length, cObj (rowU (E.pre (rounds n)))]) (tk NT (KS n)) := by
  intro k
  have stop : ∀ k i, i = rounds n → GoesQL Try.prog W (pinL (E.AB i) E.l0 (E.l1 i)) (pinL (E.AB (rounds n)) E.l0 (E.l1 (rounds n))) (k + 1) RB (HS (E.AB i) [rObj (E.pre (rounds n)).length (E.pre i).length, cObj (rowU (E.pre (rounds n)))]) (tk NT (KI n (Int.ofNat i))) (.exit 2)
      (HS (E.AB (rounds n)) [rObj (E.pre (rounds n)).length (E.pre (rounds n)).length, cObj (rowU (E.pre (rounds n)))]) (tk NT (KS n)) := by
    intro k i hi
    subst hi
    refine .exit (.seqExit ?_)
    by_cases hn : rounds n < n
    · exact gq (E.pins _) ok_d0 (r_stop n _ (rounds n) 0 _ _ _ _) (ac (l30_f (by unfold rounds at *; omega)) (ac (lt_t hn) (ac (lt_t hn) (ac (lt_t hn) an)))) (ac (rowU_plain _) an)
    · exact gq (E.pins _) ok_d0 (r_out n _ (rounds n) 0 _ _ _ _) (ac (lt_f hn) (ac (lt_f hn) (ac (lt_f hn) an))) (ac (rowU_plain _) an)
  induction k with
  | zero => intro i h1 h2; exact stop 0 i (by omega)
  | succ k ih =>
    intro i h1 h2
    by_cases h : i = rounds n
    · exact stop _ i h
    exact .next (r_round E (by omega)) (ih (i + 1) (by omega) (by omega))
theorem whole : ∃ c, Try.f5.body = some c ∧ ∃ qs H', GoesQ Try.prog W (pinL (E.AB 0) E.l0 (E.l1 0)) qs c (HS (E.AB 0) []) (tk NT [(0, rA n)]) .ret H' (tk NT [(2, .bool true)]) := by
  refine ⟨_, shape, ?_⟩
  have a0 := gq (E.pins 0) ok_a0 (m_pre0 n (E.AA 0) ((E.BS 0).map u8)) an an
  have a1 := gq (E.pins 0) ok_a1 (m_pre1 n (E.AA 0) ((E.BS 0).map u8)) an an
  have a2 := gq (E.pins 0) ok_a2 (m_pre2 n (E.AA 0) ((E.BS 0).map u8)) an an
  have a3 := gq (E.pins 0) ok_a3 (m_pre3 n (E.AA 0) ((E.BS 0).map u8)) an an
  by_cases hn : 0 < n
  · have w := w_all E hn
    have hm : (E.pre (rounds n)).length ≤ 2000 := by have := pre_len E (rounds n); unfold rounds at *; omega
    have hpos : 1 ≤ (E.pre (rounds n)).length := by
      obtain ⟨k, hk⟩ : ∃ k, rounds n = k + 1 := ⟨rounds n - 1, by unfold rounds; omega⟩
      rw [hk]
      simp only [Elems.pre, Elems.enc, num, List.length_append, List.length_cons]; omega
    have pl := rowU_plain (E.pre (rounds n))
    have r1 := m_read n (E.pre (rounds n)).length (rounds n) (E.AA (rounds n)) (rowU (E.pre (rounds n))) ((E.BS (rounds n)).map u8)
    have ce : CPY (exQ (rowU (E.pre (rounds n))) 0 ((E.pre (rounds n)).length * 1)) = rowU (E.pre (rounds n)) := by
      rw [cpy, exQ_eq]
      apply Array.ext'
      simp [rowU, List.extract_eq_take_drop, List.take_of_length_le]
    rw [YY_row, ce] at r1
    have c0 := gq (E.pins (rounds n)) ok_c0 r1 (ac (le_c (by omega)) (ac (beq_eq_false_iff_ne.2 (by omega)) (ac (decide_eq_true (by rw [rowU_size]; omega)) (ac (le_c (by omega)) (ac (beq_eq_false_iff_ne.2 (by omega)) (ac (decide_eq_true (by rw [rowU_size]; omega)) an)))))) (ac pl (ac pl an))
    simp only [Nat.zero_add] at c0
    have c1 := gq (E.pins (rounds n)) ok_c1 (m_same n (E.pre (rounds n)).length (E.pre (rounds n)).length (E.AA (rounds n)) (rowU (E.pre (rounds n))) (rowU (E.pre (rounds n))) ((E.BS (rounds n)).map u8)) (ac (by rw [Int.sub_zero, w64 (by omega) (by omega), decide_eq_true rfl]; rfl) an) (ac pl an)
    have c2 := gn (l1 := E.l1 (rounds n)) (E.pins 0) ok_c2 (m_i0x n (E.pre (rounds n)).length (E.AA (rounds n)) (rowU (E.pre (rounds n))) (E.AA 0) ((E.BS (rounds n)).map u8) ((E.BS 0).map u8)) an (ac pl an)
    have rl := GoesQL.loop (n := 30 + 1) (r_loop E 30 0 (by omega) (by unfold rounds; omega))
    have lf : leftC (E.pre (rounds n)).length (Int.ofNat (E.pre (rounds n)).length) := decide_eq_true (by rw [T0 _ _ (by omega) (by omega)]; omega)
    have e := gq (E.pins (rounds n)) ok_e0 (m_end n (E.pre (rounds n)).length 0 0 (Int.ofNat (E.pre (rounds n)).length) (E.AA (rounds n)) (rowU (E.pre (rounds n))) ((E.BS (rounds n)).map u8)) (ac lf (ac lf (ac (decide_eq_true (by rw [T0 _ _ (by omega) (by omega)]; omega)) (ac lf (ac lf an))))) an
    exact ⟨_, _, .seq a0 (.seq a1 (.seq a2 (.seq (.seq a3 (.blockExit w)) (.seq c0 (.seq c1 (.seq (.seq c2 (.blockExit rl)) e))))))⟩
  · have hn0 : n = 0 := by omega
    have w := gq (E.pins 0) ok_b0 (w_out0 n 0 0 0 0 (E.AA 0) #[] ((E.BS 0).map u8)) (ac (lt_f hn) (ac (lt_f hn) (ac (lt_f hn) an))) an
    have c0 := gq (E.pins 0) ok_c0 (m_readn n 0 (E.AA 0) ((E.BS 0).map u8)) an an
    have c1 := gq (E.pins 0) ok_c1 (m_samen n (E.AA 0) ((E.BS 0).map u8)) an an
    have c2 := gq (E.pins 0) ok_c2 (m_i0n n (E.AA 0) ((E.BS 0).map u8)) an an
    have r := gq (E.pins 0) ok_d0 (r_outn n 0 (E.AA 0) ((E.BS 0).map u8)) (ac (lt_f hn) (ac (lt_f hn) (ac (lt_f hn) an))) an
    have e := gq (E.pins 0) ok_e0 (m_endn n (E.AA 0) ((E.BS 0).map u8)) an an
    exact ⟨_, _, .seq a0 (.seq a1 (.seq a2 (.seq (.seq a3 (.blockExit (GoesQL.loop (n := 1) (.exit (.seqExit w))))) (.seq c0 (.seq c1 (.seq (.seq c2 (.blockExit (GoesQL.loop (n := 1) (.exit (.seqExit r))))) e))))))⟩
theorem walkE (v : Value) (ha : LRel (hk G ((pinL (E.AB 0) E.l0 (E.l1 0)).map (·.1))).size (rhoRows G ((pinL (E.AB 0) E.l0 (E.l1 0)).map (·.2))) [rA n] [v]) : Calls Try.prog 5 #[v] W fun e W' => e = .returned (.bool true) ∧ Below W.heap.size W W' := by
  obtain ⟨c, hb, qs, H', hg⟩ := whole E
  exact GoesQ.calls (args := [rA n]) (args' := [v]) (K' := [(2, .bool true)]) (v := .bool true) (s' := ⟨H', 0, none, []⟩) Try.func5 hb (Nat.le_of_ble_eq_true (by kernel_rfl)) (E.pins 0) (Nat.le_of_ble_eq_true (by kernel_rfl)) ha hg (.inl rfl) (by kernel_rfl) rfl rfl
end
theorem none_run : evRun Try.prog noEnv 500 5 [.slice none 0 0] Try.prog.globals.size none = some (.bool true, []) := by kernel_rfl
theorem walkN (W : World) : Calls Try.prog 5 #[.slice none 0 0] W fun e W' => e = .returned (.bool true) ∧ Below W.heap.size W W' :=
  calls_of_run noEnv_sound good Try.func5 rfl none_run (fun _ h => nomatch h) rfl rfl W
end WireBk
end Go.Proofs.Ytddlejbcnjmfmaa
