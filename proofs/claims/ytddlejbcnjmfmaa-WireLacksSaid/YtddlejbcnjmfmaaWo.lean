/- P4.1: where bytes lack all is zero from then on: WireLacks from end to end. -/
import Derived.Test.YtddlejbcnjmfmaaWm
namespace Go.Proofs.Ytddlejbcnjmfmaa
open Go Go.Ev Go.RowKit Go.ChangeShapes Go.WideShapes Go.Deep
set_option maxRecDepth 100000
namespace WireLk
theorem not_same (l : List UInt8) : notC l := by unfold notC; simp
theorem at_eq {nb : Nat} (h : nb ≤ 1000) : at1 nb = nb := by
  unfold at1
  rw [Int.zero_add, wrap64 (by omega) (by omega)]
theorem of_eq {nb : Nat} (h : nb ≤ 1000) : of0 nb = 0 := by
  unfold of0
  rw [at_eq h, Int.sub_self]; rfl
theorem ln_eq {nb : Nat} (h : nb ≤ 1000) : ln1 nb = nb := by
  unfold ln1
  rw [at_eq h, of_eq h]; simp
theorem left1_eq {nb : Nat} (h : nb ≤ 1000) : left1 nb = 0 := by
  unfold left1
  rw [at_eq h, wrap64 (by omega) (by omega)]; omega
theorem left0_eq {nb : Nat} (h : nb ≤ 1000) : left0 nb = nb := by
  unfold left0
  rw [wrap64 (by omega) (by omega)]; omega
theorem exQ_nil : exQ (#[] : Array Value) 0 (0 * 1) = #[] := rfl
theorem CB_eq (X : Array Value) : CB X = X := by unfold CB; rw [exQ_nil, apQ_eq, Array.empty_append]
theorem exQ_all {X : Array Value} {k : Nat} (h : X.size = k) : exQ X 0 k = X := by
  apply Array.ext'
  show (X.toList.drop 0).take k = X.toList
  rw [List.drop_zero]
  exact List.take_of_length_le (by rw [Array.length_toList, h]; exact Nat.le_refl _)
theorem Y_eq {X : Array Value} {nb : Nat} (h : nb ≤ 1000) (hs : X.size = nb) : Y X nb = X := by
  unfold Y
  rw [CB_eq, of_eq h, ln_eq h, exQ_nil, apQ_eq, Array.empty_append]
  simp only [Nat.mul_one]
  exact exQ_all hs
theorem row_c {X : Array Value} {k : Nat} (h : X.size = k) : rowC X 0 k X := by
  refine ⟨by omega, ?_⟩
  have := Array.extract_size (xs := X)
  rw [h] at this
  rw [Nat.zero_add]; exact this
theorem bytes_of : ∀ L : List Int, ∃ l, bytesOf (L.map (Value.int .u8)) = some l
  | [] => ⟨[], rfl⟩
  | x :: r => by
    obtain ⟨l, hl⟩ := bytes_of r
    exact ⟨UInt8.ofNat x.toNat :: l, by simp [bytesOf, hl]⟩
theorem plain_ints (zs : List Int) : plainC ⟨zs.map (Value.int .u8)⟩ := by
  unfold plainC
  rw [List.all_eq_true]
  intro v hv
  obtain ⟨n, _, rfl⟩ := List.mem_map.1 hv
  rfl
theorem c3_all {zs : List Int} {nb : Nat} (hl : zs.length = nb) (h0 : 0 < nb) (h1 : nb ≤ 60) :
    ∃ cs l, (∀ p ∈ c3 (zs.map (Value.int .u8)) nb cs l, p) ∧ CB (X3 (zs.map (Value.int .u8)) nb) = ⟨zs.map (Value.int .u8)⟩ := by
  obtain ⟨l, hb⟩ := bytes_of zs
  have hs : (rowObj (zs.map (Value.int .u8))).cells.size = nb := by simp [rowObj, hl]
  have hX : X3 (zs.map (Value.int .u8)) nb = (rowObj (zs.map (Value.int .u8))).cells := by unfold X3; rw [Nat.mul_one]; exact exQ_all hs
  have hC : CB (X3 (zs.map (Value.int .u8)) nb) = (rowObj (zs.map (Value.int .u8))).cells := by rw [CB_eq, hX]
  have a := at_eq (nb := nb) (by omega)
  have b := of_eq (nb := nb) (by omega)
  have c := ln_eq (nb := nb) (by omega)
  have d := left1_eq (nb := nb) (by omega)
  have e := left0_eq (nb := nb) (by omega)
  have z1 : (!decide (left1 nb = 0)) = false := by rw [d]; rfl
  have z0 : (!decide (left0 nb = ((nb : Nat) : Int))) = false := by rw [e, decide_eq_true rfl]; rfl
  refine ⟨(rowObj (zs.map (Value.int .u8))).cells, l, ?_, hC⟩
  unfold c3
  refine ac (decide_eq_true (by rw [d]; decide)) (ac z1 (ac z1 (ac z1 (ac z1 (ac (not_same l) (ac (not_same l) (ac (not_same l) (ac (not_same l) (ac hb (ac (row_c hs) (ac hb (ac ?_
    (ac (decide_eq_true (by rw [c]; omega)) (ac (by rw [c]; exact beq_false_of_ne (by omega)) (ac (decide_eq_true (by rw [b, c, hC, hs]; simp)) (ac (decide_eq_true (by rw [a, b]; simp)) (ac (decide_eq_true (by rw [a, hC, hs]; simp))
    (ac (decide_eq_false (by omega)) (ac (decide_eq_false (by rw [e]; omega)) (ac z0 (ac z0 (ac z0 (ac z0 (ac (decide_eq_true (by omega)) (ac (beq_false_of_ne (by omega)) (ac (decide_eq_true (by rw [hs]; omega)) (ac (decide_eq_false (by omega)) an)))))))))))))))))))))))))))
  rw [Y_eq (by omega) (by rw [hX]; exact hs), hX, c, Nat.zero_add]
  exact row_c hs
theorem c61_all {zs : List Int} {nb : Nat} (hl : zs.length = nb) (h1 : 60 < nb) :
    ∃ cs l, (∀ p ∈ c61 (zs.map (Value.int .u8)) nb cs l, p) ∧ CB (X61 (zs.map (Value.int .u8))) = ⟨(zs.take 60).map (Value.int .u8)⟩ := by
  obtain ⟨l, hb⟩ := bytes_of (zs.take 60)
  have hs : (rowObj (zs.map (Value.int .u8))).cells.size = nb := by simp [rowObj, hl]
  have hX : X61 (zs.map (Value.int .u8)) = ⟨(zs.take 60).map (Value.int .u8)⟩ := by
    apply Array.ext'
    show ((zs.map (Value.int .u8)).drop (0 + 0 * 1)).take (60 * 1) = _
    simp [List.map_take]
  have hXs : (X61 (zs.map (Value.int .u8))).size = 60 := by rw [hX]; simp; omega
  have hC : CB (X61 (zs.map (Value.int .u8))) = ⟨(zs.take 60).map (Value.int .u8)⟩ := by rw [CB_eq, hX]
  have a := at_eq (nb := 60) (by omega)
  have b := of_eq (nb := 60) (by omega)
  have c := ln_eq (nb := 60) (by omega)
  refine ⟨⟨(zs.take 60).map (Value.int .u8)⟩, l, ?_, hC⟩
  unfold c61
  refine ac (not_same l) (ac (not_same l) (ac (not_same l) (ac (not_same l) (ac hb (ac ⟨by rw [hs]; omega, ?_⟩ (ac hb (ac ?_ (ac (decide_eq_true (by rw [b, c, CB_eq, hXs]; simp)) (ac (decide_eq_true (by rw [a, CB_eq, hXs]; simp))
    (ac (decide_eq_true (by rw [hs]; omega)) (ac (decide_eq_true (by rw [hs]; omega)) (ac (decide_eq_true (by omega)) an))))))))))))
  · apply Array.ext'
    rw [Array.toList_extract, List.extract_eq_take_drop]
    simp [rowObj, List.map_take]
  · have := row_c (X := X61 (zs.map (Value.int .u8))) (k := 60) hXs
    rw [Y_eq (by omega) hXs, c, Nat.zero_add]
    rw [hX] at this ⊢
    exact this
/-- A row of bytes that was handed in. -/
theorem has_of_fits {W : World} {cs : List Value} {l : Ev.Loc} (h : RowFits W cs l) : RowHas W (rowObj cs) l :=
  ⟨rfl, h.size, h.esz, h.bad, h.blk, fun j hj => by
    have hj' : j < cs.length := hj
    obtain ⟨c1, c2, c3⟩ := h.cell j cs[j] (List.getElem?_eq_getElem hj')
    exact ⟨_, c1, c2, .inl ⟨c3, rfl⟩⟩⟩
/-- What was handed in as the list of calls: none, or a row. -/
def PartsArg (W : World) (v : Value) : Prop := v = nl ∨ ∃ (a : Addr) (len cap : Nat) (Z : Nat → Value) (l : Ev.Loc), v = .slice (some a) len cap ∧ AnyRow W 3 Z l a len cap ∧ ∀ i, i < len → ∃ x, Z (i * 3 + 1) = .int .i64 x
theorem celC_of {Z : Nat → Value} {len i : Nat} {x : Int} (hi : i < len) (hz : Z (i * 3 + 1) = .int .i64 x) : celC (absA Z (len * 3)) i x := by
  have e : 0 + (Int.ofNat i).toNat * 3 + 1 = i * 3 + 1 := by simp
  unfold celC
  rw [e, absA_size]
  refine ⟨by omega, ?_⟩
  have hlt : i * 3 + 1 < (absA Z (len * 3)).size := by rw [absA_size]; omega
  apply Array.ext'
  rw [Array.toList_extract, List.extract_eq_take_drop, show i * 3 + 1 + 1 - (i * 3 + 1) = 1 by omega, List.drop_eq_getElem_cons (by simpa using hlt)]
  have := absA_get Z (len * 3) (i * 3 + 1) hlt
  simp [this, hz, absV, Ev.flat]
theorem walk (v0 v1 : Value) (W : World) (s0 : IntsArg W .u8 v0) (s1 : PartsArg W v1) : Calls Try.prog 6 #[v0, v1] W fun e W' => e = .returned (.bool true) ∧ Below W.heap.size W W' := by
  have call : ∀ {ps : List (AObj × Ev.Loc)} {b a b' a' : Value}, (∀ p ∈ ps, RowHas W p.1 p.2) →
      VRel (hk Try.prog.globals.size (ps.map (·.1))).size (rhoRows Try.prog.globals.size (ps.map (·.2))) b b' → VRel (hk Try.prog.globals.size (ps.map (·.1))).size (rhoRows Try.prog.globals.size (ps.map (·.2))) a a' →
      GoesK Try.prog W (nest pre Rest) NT (ps.map (·.1)) [(0, b), (1, a)] .ret [] [(4, .bool true)] → Calls Try.prog 6 ⟨[b', a']⟩ W fun e W' => e = .returned (.bool true) ∧ Below W.heap.size W W' :=
    fun {ps b a b' a'} h hb ha hg => GoesK.calls (ps := ps) (args := [b, a]) (K' := [(4, .bool true)]) (L' := []) (v := .bool true) (s' := ⟨hk G [], 0, none, []⟩) Try.func6 shape (Nat.le_of_ble_eq_true (by kernel_rfl)) h (Nat.le_of_ble_eq_true (by kernel_rfl)) (.cons hb (.cons ha .nil)) hg (.inl rfl) (by kernel_rfl) rfl rfl
  have one : ∀ {o : AObj} {l : Ev.Loc}, RowHas W o l → ∀ p ∈ [(o, l)], RowHas W p.1 p.2 := fun h p hp => by rw [List.mem_singleton] at hp; subst hp; exact h
  have two : ∀ {o u : AObj} {l k : Ev.Loc}, RowHas W o l → RowHas W u k → ∀ p ∈ [(o, l), (u, k)], RowHas W p.1 p.2 := fun h g p hp => by
    rcases List.mem_cons.1 hp with rfl | hp
    · exact h
    · rw [List.mem_singleton] at hp; subst hp; exact g
  have bnil : ∀ {n : Nat} {ρ : Rho}, VRel n ρ nl nl := .flat rfl
  rcases s0 with rfl | ⟨ab, nb, capb, zs, lb, rfl, b1, b2, b3, b4, b5, b6, b7⟩ <;> rcases s1 with rfl | ⟨aa, n, capa, Z, la, rfl, ra, hz⟩
  · exact call (ps := []) (fun p hp => nomatch hp) bnil bnil (piecesS_goes noEnv_sound good okPre pre_nil_nil an an rest0)
  · have hA : plainC (absA Z (n * 3)) := absA_plain Z _
    exact call (ps := [(aObj (absA Z (n * 3)), la)]) (one ra.has) bnil (ra.rel rfl (by simp [hk])) (piecesS_goes noEnv_sound good okPre (pre_row_nil (absA Z (n * 3)) n) an (ac hA an) (restN hA fun i hi => by obtain ⟨x, hx⟩ := hz i hi; exact ⟨x, celC_of hi hx⟩))
  · have rel : ∀ {ps : List (AObj × Ev.Loc)}, (ps.map (·.2))[0]? = some lb → VRel (hk Try.prog.globals.size (ps.map (·.1))).size (rhoRows Try.prog.globals.size (ps.map (·.2))) (rA 0 nb) (.slice (some ab) nb capb) := by
      intro ps hi
      have hlt : 0 < ps.length := by have := (List.getElem?_eq_some_iff.1 hi).1; simpa using this
      exact vrel_row hi (by simp [hk]; omega) b4.bad b4.esz b7 b6 b2 b5
    by_cases h0 : nb = 0
    · subst h0
      have hzs : zs = [] := List.length_eq_zero_iff.1 b1
      subst hzs
      exact call (ps := [(rowObj [], lb)]) (one (has_of_fits b4)) (rel rfl) bnil (piecesS_goes noEnv_sound good okPre pre_nil_0 an an rest0)
    by_cases h60 : nb ≤ 60
    · obtain ⟨cs, l, hc, _⟩ := c3_all b1 (by omega) h60
      exact call (ps := [(rowObj (zs.map (Value.int .u8)), lb)]) (one (has_of_fits b4)) (rel rfl) bnil (piecesS_goes noEnv_sound good okPre (pre_nil_3 _ nb cs l) hc an rest0)
    · obtain ⟨cs, l, hc, _⟩ := c61_all b1 (by omega)
      exact call (ps := [(rowObj (zs.map (Value.int .u8)), lb)]) (one (has_of_fits b4)) (rel rfl) bnil (piecesS_goes noEnv_sound good okPre (pre_nil_61 _ nb cs l) hc an rest0)
  · have hA : plainC (absA Z (n * 3)) := absA_plain Z _
    have hx : ∀ i, i < n → ∃ x, celC (absA Z (n * 3)) i x := fun i hi => by obtain ⟨x, hx⟩ := hz i hi; exact ⟨x, celC_of hi hx⟩
    have rel : ∀ {ps : List (AObj × Ev.Loc)}, (ps.map (·.2))[0]? = some lb → VRel (hk Try.prog.globals.size (ps.map (·.1))).size (rhoRows Try.prog.globals.size (ps.map (·.2))) (rA 0 nb) (.slice (some ab) nb capb) := by
      intro ps hi
      have hlt : 0 < ps.length := by have := (List.getElem?_eq_some_iff.1 hi).1; simpa using this
      exact vrel_row hi (by simp [hk]; omega) b4.bad b4.esz b7 b6 b2 b5
    by_cases h0 : nb = 0
    · subst h0
      have hzs : zs = [] := List.length_eq_zero_iff.1 b1
      subst hzs
      exact call (ps := [(rowObj [], lb), (aObj (absA Z (n * 3)), la)]) (two (has_of_fits b4) ra.has) (rel rfl) (ra.rel (i := 1) rfl (by simp [hk])) (piecesS_goes noEnv_sound good okPre (pre_row_0 (absA Z (n * 3)) n) an (ac hA (ac (by rfl) an)) (restW hA (by rfl) hx))
    by_cases h60 : nb ≤ 60
    · obtain ⟨cs, l, hc, hC⟩ := c3_all b1 (by omega) h60
      have hpl : plainC (CB (X3 (zs.map (Value.int .u8)) nb)) := by rw [hC]; exact plain_ints zs
      exact call (ps := [(rowObj (zs.map (Value.int .u8)), lb), (aObj (absA Z (n * 3)), la)]) (two (has_of_fits b4) ra.has) (rel rfl) (ra.rel (i := 1) rfl (by simp [hk])) (piecesS_goes noEnv_sound good okPre (pre_row_3 _ nb cs l (absA Z (n * 3)) n) hc (ac hA (ac hpl an)) (restW hA hpl hx))
    · obtain ⟨cs, l, hc, hC⟩ := c61_all b1 (by omega)
      have hpl : plainC (CB (X61 (zs.map (Value.int .u8)))) := by rw [hC]; exact plain_ints _
      exact call (ps := [(rowObj (zs.map (Value.int .u8)), lb), (aObj (absA Z (n * 3)), la)]) (two (has_of_fits b4) ra.has) (rel rfl) (ra.rel (i := 1) rfl (by simp [hk])) (piecesS_goes noEnv_sound good okPre (pre_row_61 _ nb cs l (absA Z (n * 3)) n) hc (ac hA (ac hpl an)) (restW hA hpl hx))
end WireLk
end Go.Proofs.Ytddlejbcnjmfmaa
