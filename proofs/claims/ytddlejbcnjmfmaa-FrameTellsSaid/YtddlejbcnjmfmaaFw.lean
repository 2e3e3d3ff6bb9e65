/- P5.1: messages are joined and cut as the document says, for any bytes: what the conditions of FrameTells come to. -/
import Derived.Test.YtddlejbcnjmfmaaFa
namespace Go.Proofs.Ytddlejbcnjmfmaa
open Go Go.Ev Go.RowKit
set_option maxRecDepth 100000
namespace FrameTl
theorem an : ∀ p ∈ ([] : List Prop), p := fun _ h => nomatch h
theorem ac {a : Prop} {l : List Prop} (h : a) (hl : ∀ p ∈ l, p) : ∀ p ∈ a :: l, p := fun p hp => by
  rcases List.mem_cons.1 hp with rfl | hp
  · exact h
  · exact hl p hp
theorem wrap64' {x : Int} (h1 : -9223372036854775808 ≤ x) (h2 : x < 9223372036854775808) : wrapF .i64 x = x := wrap64 h1 h2
/-- So many bytes. -/
structure Jok (J : Array Value) (L : Nat) : Prop where
  size : J.size = L
  ok : ∀ v ∈ J.toList, intOk .u8 v = true
theorem ok_u8 {x : Int} (h0 : 0 ≤ x) (h1 : x < 256) : intOk .u8 (.int .u8 x) = true := by
  simp [intOk, Lit.wf, IntKind.min, IntKind.max, IntKind.signed, IntKind.bits]
  omega
theorem u8_ok {v : Value} (h : intOk .u8 v = true) : ∃ x : Int, v = .int .u8 x ∧ 0 ≤ x ∧ x < 256 := by
  obtain ⟨h1, h2⟩ := intOk_eq h
  refine ⟨_, h1, ?_⟩
  simp [Lit.wf, IntKind.min, IntKind.max, IntKind.signed, IntKind.bits] at h2
  omega
theorem wrap8 (x : Int) : 0 ≤ wrapF .u8 x ∧ wrapF .u8 x < 256 := by simp only [wrapF]; omega
theorem fits8 {x : Int} (h0 : 0 ≤ x) (h1 : x < 256) : fitsU .u8 x = true := by
  obtain ⟨m, rfl⟩ : ∃ m : Nat, x = (m : Int) := ⟨x.toNat, by omega⟩
  exact Nat.ble_eq_true_of_le (by omega)
theorem xor8 {x y : Int} (h0 : 0 ≤ x) (h1 : x < 256) (g0 : 0 ≤ y) (g1 : y < 256) : (0 : Int) ≤ ((x.toNat ^^^ y.toNat : Nat) : Int) ∧ ((x.toNat ^^^ y.toNat : Nat) : Int) < 256 := by
  refine ⟨by omega, ?_⟩
  have : x.toNat ^^^ y.toNat < 2 ^ 8 := Nat.xor_lt_two_pow (by omega) (by omega)
  omega
theorem exQ_list (c : Array Value) (a n : Nat) : (exQ c a n).toList = (c.toList.drop a).take n := rfl
theorem Jok.ex {c : Array Value} {L a n : Nat} (h : Jok c L) (hl : a + n ≤ L) : Jok (exQ c a n) n := by
  refine ⟨?_, fun v hv => ?_⟩
  · rw [← Array.length_toList, exQ_list, List.length_take, List.length_drop, Array.length_toList, h.size]; omega
  · rw [exQ_list] at hv
    exact h.ok v (List.mem_of_mem_drop (List.mem_of_mem_take hv))
theorem Jok.row {D : List Value} {n : Nat} (h : D.length = n) (ho : ∀ v ∈ D, intOk .u8 v = true) : Jok (rowObj D).cells n := ⟨by simp [rowObj, h], ho⟩
theorem Jok.ap {P Q : Array Value} {L n : Nat} (h : Jok P L) (g : Jok Q n) : Jok (apQ P Q) (L + n) := by
  rw [apQ_eq]
  refine ⟨by rw [Array.size_append, h.size, g.size], fun v hv => ?_⟩
  rw [Array.toList_append, List.mem_append] at hv
  exact hv.elim (h.ok v) (g.ok v)
theorem Jok.rP {T : List Value} {m n : Nat} (kind : Int) (h : T.length = n) (ho : ∀ v ∈ T, intOk .u8 v = true) : Jok (rP kind m T) (19 + n) := by
  refine ⟨by simp [FrameTl.rP, F16, h]; omega, fun v hv => ?_⟩
  have f : intOk .u8 (.int .u8 255) = true := ok_u8 (by omega) (by omega)
  have w : ∀ x, intOk .u8 (.int .u8 (wrapF .u8 x)) = true := fun x => ok_u8 (wrap8 x).1 (wrap8 x).2
  simp only [FrameTl.rP, F16, List.mem_cons] at hv
  rcases hv with rfl | rfl | rfl | rfl | rfl | rfl | rfl | rfl | rfl | rfl | rfl | rfl | rfl | rfl | rfl | rfl | rfl | rfl | rfl | hv
  all_goals first | exact f | exact w _ | exact ho v hv
theorem Jok.whole {J : Array Value} {L k : Nat} (h : Jok J L) (hk : k = L) : J.extract 0 k = J := by
  have := Array.extract_size (xs := J)
  rw [h.size] at this
  rw [hk]; exact this
theorem Jok.exAll {J : Array Value} {L k : Nat} (h : Jok J L) (hk : k = L) : exQ J 0 k = J := by
  rw [exQ_eq]; exact h.whole (by omega)
theorem askC {J : Array Value} {L a n : Nat} (h : Jok J L) (hl : a + n ≤ L) (hm : n ≤ 1000000) : n ≤ 1000000 ∧ (exQ J a n).toList.all (intOk .u8) = true :=
  ⟨hm, List.all_eq_true.2 (h.ex hl).ok⟩
theorem pick (at' : Int) (L : Nat) (h0 : 0 < L) (h1 : L ≤ 1000) :
    ∃ i : Nat, i < L ∧ withinB 0 (wrapF .i64 (((L : Nat) : Int) - 1)) = true ∧ Value.int .i64 (withinV at' 0 (wrapF .i64 (((L : Nat) : Int) - 1))) = Value.int .i64 (Int.ofNat i) := by
  have hw : wrapF .i64 (((L : Nat) : Int) - 1) = ((L : Nat) : Int) - 1 := wrap64 (by omega) (by omega)
  have hm1 := Int.emod_nonneg at' (show ((L : Nat) : Int) ≠ 0 by omega)
  have hm2 := Int.emod_lt_of_pos at' (show (0 : Int) < ((L : Nat) : Int) by omega)
  refine ⟨(at' % (L : Int)).toNat, by omega, ?_, ?_⟩
  · rw [hw]
    unfold withinB
    rw [decide_eq_true (by omega), decide_eq_true (by omega), decide_eq_true (by omega)]; rfl
  · rw [hw]
    unfold withinV
    have : (L : Int) - 1 - 0 + 1 = (L : Int) := by omega
    rw [this, Int.zero_add]
    congr 1
    show _ = (((at' % (L : Int)).toNat : Nat) : Int)
    omega
theorem putOne (J : Array Value) (i : Nat) (v : Value) : (putCells J i [v]).toList = J.toList.set i v := by
  simp only [putCells, Array.toList_setIfInBounds]
theorem turned {J : Array Value} {L i : Nat} {turn : Int} (h : Jok J L) (hL : L ≤ 1000000) (hi : i < L) (h0 : 0 ≤ turn) (h1 : turn < 256) :
    ∃ v : Int, cellC J i v ∧ hasC J i ∧ turnC J L i v turn ∧ (fitsU .u8 v && fitsU .u8 turn) = true := by
  have hlt : i < J.size := by rw [h.size]; exact hi
  have hmem : J[i] ∈ J.toList := by simp
  obtain ⟨x, hx, x0, x1⟩ := u8_ok (h.ok _ hmem)
  have e1 : 0 + (Int.ofNat i).toNat * 1 = i := by simp
  refine ⟨x, ?_, ?_, ?_, ?_⟩
  · unfold cellC
    rw [e1]
    refine ⟨by omega, ?_⟩
    apply Array.ext'
    rw [Array.toList_extract, List.extract_eq_take_drop, show i + 1 - i = 1 by omega]
    have : J.toList.drop i = J[i] :: J.toList.drop (i + 1) := by
      rw [List.drop_eq_getElem_cons (by simpa using hlt)]; simp
    rw [this, hx]; rfl
  · unfold hasC
    rw [e1]
    exact decide_eq_true (by omega)
  · unfold turnC
    refine ⟨hL, List.all_eq_true.2 fun u hu => ?_⟩
    rw [e1, exQ_list, putOne] at hu
    have hu := List.mem_of_mem_drop (List.mem_of_mem_take hu)
    rcases List.mem_or_eq_of_mem_set hu with hu | rfl
    · exact h.ok u hu
    · have := xor8 x0 x1 h0 h1
      exact ok_u8 this.1 this.2
  · rw [fits8 x0 x1, fits8 h0 h1]; rfl
theorem hi_lo {m : Nat} (hm : m ≤ 4077) : w8 (lenW m) 1 = hiP m ∧ w8 (lenW m) 0 = loP m := by
  have e1 : wrapF .i64 (19 + ((m : Nat) : Int)) = 19 + (m : Int) := wrap64 (by omega) (by omega)
  have e2 : wrapF .i64 (((m : Nat) : Int) + 19) = 19 + (m : Int) := by rw [wrap64 (by omega) (by omega)]; omega
  have e3 : lenW m = 19 + (m : Int) := by
    unfold lenW
    rw [e1]
    simp only [wrapF]; omega
  unfold hiP loP w8
  rw [e2, e3]
  refine ⟨rfl, ?_⟩
  have : ((2 ^ (8 * 0) : Nat) : Int) = 1 := rfl
  rw [this, Int.fdiv_eq_ediv_of_nonneg _ (by decide), Int.ediv_one]
theorem kind_b {kind : Int} (h0 : 1 ≤ kind) (h1 : kind ≤ 4) : w8 (wrapF .u32 kind) 0 = wrapF .u8 kind := by
  have e : wrapF .u32 kind = kind := by simp only [wrapF]; omega
  unfold w8
  have : ((2 ^ (8 * 0) : Nat) : Int) = 1 := rfl
  rw [e, this, Int.fdiv_eq_ediv_of_nonneg _ (by decide), Int.ediv_one]
theorem rW_eq {kind : Int} {m : Nat} (h0 : 1 ≤ kind) (h1 : kind ≤ 4) (hm : m ≤ 4077) (T : List Value) : rW kind m T = rP kind m T := by
  unfold rW rP
  rw [kind_b h0 h1, (hi_lo hm).1, (hi_lo hm).2]
theorem same_c {kind : Int} {m : Nat} (h0 : 1 ≤ kind) (h1 : kind ≤ 4) (hm : m ≤ 4077) : sameC kind m := by
  unfold sameC
  rw [kind_b h0 h1, (hi_lo hm).1, (hi_lo hm).2]
  simp
theorem bytes_of {l : List Value} (h : ∀ v ∈ l, intOk .u8 v = true) : ∃ b, bytesOf l = some b := by
  induction l with
  | nil => exact ⟨[], rfl⟩
  | cons x r ih =>
    obtain ⟨b, hb⟩ := ih fun v hv => h v (List.mem_cons_of_mem _ hv)
    obtain ⟨n, rfl, _⟩ := u8_ok (h x (List.mem_cons_self ..))
    exact ⟨UInt8.ofNat n.toNat :: b, by simp [bytesOf, hb]⟩
theorem not_same (l : List UInt8) : (!((⟨l.toArray⟩ : ByteArray).toList == (⟨l.toArray⟩ : ByteArray).toList)) = false := by simp
theorem whole_c {P : Array Value} {L : Nat} (h : Jok P L) : wholeC P L := by
  unfold wholeC
  rw [h.size]
  exact beq_iff_eq.2 (by omega)
theorem rowP_c {P : Array Value} {L : Nat} (h : Jok P L) : rowPC P L P := ⟨by rw [h.size]; omega, h.whole (by omega)⟩
theorem rowW_c {P W : Array Value} {L : Nat} (h : Jok P L) (e : W = P) : rowWC W L P := by
  subst e
  have h0 : exQ (#[] : Array Value) 0 (0 * 1) = #[] := rfl
  unfold rowWC
  rw [h0, apQ_eq, Array.empty_append, h.exAll (by omega)]
  exact ⟨by rw [h.size]; omega, h.whole (by omega)⟩
theorem fit_c {P W : Array Value} {L : Nat} (h : Jok P L) (e : W = P) : fitC W L := by
  subst e
  unfold fitC
  exact decide_eq_true (by rw [h.size]; omega)
end FrameTl
end Go.Proofs.Ytddlejbcnjmfmaa
