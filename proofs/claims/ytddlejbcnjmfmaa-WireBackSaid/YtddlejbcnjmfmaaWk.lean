/- P4.1: what is written is read: the walk. -/
import Derived.Test.YtddlejbcnjmfmaaWf
namespace Go.Proofs.Ytddlejbcnjmfmaa
open Go Go.Ev Go.RowKit
set_option maxRecDepth 100000
set_option linter.unusedVariables false
set_option linter.unusedSimpArgs false
namespace WireBk
theorem an : ∀ p ∈ ([] : List Prop), p := fun _ h => nomatch h
theorem ac {a : Prop} {l : List Prop} (h : a) (hl : ∀ p ∈ l, p) : ∀ p ∈ a :: l, p := fun p hp => by
  rcases List.mem_cons.1 hp with rfl | hp
  · exact h
  · exact hl p hp
theorem good : Ev.Good Try.prog := ⟨by kernel_rfl, by kernel_rfl, by kernel_rfl⟩
def pinL (AB : Array Value × List Value) (l0 l1 : Ev.Loc) : List (AObj × Ev.Loc) := [(aObj AB.1, l0), (rowObj AB.2, l1)]
noncomputable abbrev HS (AB : Array Value × List Value) (L : List AObj) : Array AObj := hk G ([aObj AB.1, rowObj AB.2] ++ L)
section
variable {W : World} {l0 l1 l2 : Ev.Loc}
abbrev Gq (W : World) (l0 l1 l2 : Ev.Loc) (AB AB' : Array Value × List Value) (p : List Nat) (L : List AObj) (K : List (Nat × Value)) (e : AExit) (L' : List AObj) (K' : List (Nat × Value)) : Prop :=
  GoesQ Try.prog W (pinL AB l0 l1) (pinL AB' l0 l2) (nav p B) (HS AB L) (tk NT K) e (HS AB' L') (tk NT K')
theorem gq {AB : Array Value × List Value} {p : List Nat} {m : List (Nat × Bool)} {ks : List Nat} {L L' : List AObj} {K K' : List (Nat × Value)} {π : List Ans} {e : AExit} {cs ds : List Prop} (hp : PinsOk G W (pinL AB l0 l1)) (hok : okCode (nav p B) = true) (h : RQ p m ks AB L K π e L' K' cs ds) (hc : ∀ p ∈ cs, p) (hd : ∀ p ∈ ds, p) : Gq W l0 l1 l1 AB AB p L K e L' K' :=
  pieceQ_goes (ps := pinL AB l0 l1) (qs := pinL AB l0 l1) (q := 2) noEnv_sound good hok h hc hd hp (fun _ _ => rfl)
theorem gn {AB AB' : Array Value × List Value} {p : List Nat} {m : List (Nat × Bool)} {ks : List Nat} {L L' : List AObj} {K K' : List (Nat × Value)} {π : List Ans} {e : AExit} {cs ds : List Prop} (hp : PinsOk G W (pinL AB' l0 l2)) (hok : okCode (nav p B) = true) (h : RN p m ks AB AB' L K π e L' K' cs ds) (hc : ∀ p ∈ cs, p) (hd : ∀ p ∈ ds, p) : Gq W l0 l1 l2 AB AB' p L K e L' K' :=
  pieceQ_goes (ps := pinL AB l0 l1) (qs := pinL AB' l0 l2) (q := 1) noEnv_sound good hok h hc hd hp (fun i hi => by
    have : i = 0 := by omega
    subst this; rfl)
end
theorem m_i0x (n T : Nat) (A C A' : Array Value) (B0 B1 : List Value) : RN [1, 1, 1, 1, 1, 1, 0, 0] [(G + 2, false), (G + 3, true)] [0, 5, 6] (A, B0) (A', B1) [rObj T 0, cObj C] (KS n) [] .normal [rObj T 0, cObj C] (KI n 0) [] [plainC C] := by unfold RN; kernel_rfl
def u8 (x : Int) : Value := .int .u8 x
def rowU (l : List Int) : Array Value := ⟨l.map u8⟩
theorem rowU_size (l : List Int) : (rowU l).size = l.length := by simp [rowU]
theorem rowU_plain (l : List Int) : plainC (rowU l) := by
  unfold plainC
  rw [List.all_eq_true]
  intro v hv
  simp only [rowU, List.mem_map] at hv
  obtain ⟨b, _, rfl⟩ := hv
  rfl
theorem C1_row (p : List Int) (y : Int) : C1 (rowU p) p.length (u8 y) = rowU (p ++ [y]) := by
  unfold C1
  rw [apQ_eq, exQ_eq]
  apply Array.ext'
  simp [rowU, List.take_of_length_le]
theorem exU (p : List Int) (a n : Nat) : (rowU p).extract a (a + n) = rowU ((p.drop a).take n) := by
  apply Array.ext'
  simp [rowU, List.extract_eq_take_drop, List.map_drop, List.map_take]
theorem CN_row (p bs : List Int) (k : Nat) : CN (rowU p) p.length (exQ (rowObj (bs.map u8)).cells 0 (k * 1)) = rowU (p ++ bs.take k) := by
  unfold CN
  rw [apQ_eq, exQ_eq, exQ_eq]
  apply Array.ext'
  simp [rowU, rowObj, List.extract_eq_take_drop, List.map_take, List.take_of_length_le]
theorem CN_row' (p bs : List Int) (k : Nat) : CN (rowU p) p.length (exQ (rowObj (bs.map u8)).cells (0 + 0 * 1) (k * 1)) = rowU (p ++ bs.take k) := CN_row p bs k
theorem YY_row (p : List Int) : YY (rowU p) p.length = rowU p := by
  unfold YY
  rw [cpy, cpy, exQ_eq, exQ_eq]
  apply Array.ext'
  simp [rowU, List.extract_eq_take_drop, List.take_of_length_le]
theorem byt0 (x : Int) : byt x 0 = u8 (x % 256) := by unfold byt u8; congr 1; simp only [wrapF]; rw [Int.fdiv_eq_ediv_of_nonneg _ (by decide)]; omega
theorem byt1 (x : Int) : byt x 1 = u8 (x / 256 % 256) := by unfold byt u8; congr 1; simp only [wrapF]; rw [Int.fdiv_eq_ediv_of_nonneg _ (by decide)]; omega
theorem byt2 (x : Int) : byt x 2 = u8 (x / 65536 % 256) := by unfold byt u8; congr 1; simp only [wrapF]; rw [Int.fdiv_eq_ediv_of_nonneg _ (by decide)]; omega
theorem byt3 (x : Int) : byt x 3 = u8 (x / 16777216 % 256) := by unfold byt u8; congr 1; simp only [wrapF]; rw [Int.fdiv_eq_ediv_of_nonneg _ (by decide)]; omega
theorem le_c {m : Nat} (h : m ≤ 1073741824) : leC m := decide_eq_true h
theorem sz_c (p : List Int) : szC p.length (rowU p) := by unfold szC; rw [rowU_size]; simp
theorem sz_d (p : List Int) (m : Nat) (h : m = p.length) : szC m (rowU p) := by subst h; exact sz_c p
theorem lt_t {i n : Nat} (h : i < n) : ltN i n true := decide_eq_true (by show (i : Int) < (n : Int); omega)
theorem lt_f {i n : Nat} (h : ¬ i < n) : ltN i n false := decide_eq_false (by show ¬ (i : Int) < (n : Int); omega)
theorem l30_t {i : Nat} (h : i < 30) : l30 i true := decide_eq_true (by show (i : Int) < 30; omega)
theorem l30_f {i : Nat} (h : ¬ i < 30) : l30 i false := decide_eq_false (by show ¬ (i : Int) < 30; omega)
theorem n_c {i n : Nat} (h : i < n) : nC n i := decide_eq_true ⟨by show 0 ≤ (i : Int); omega, by show (i : Int) < (n : Int); omega⟩
theorem up (i : Nat) (h : i < 1000) : wrapF .i64 (Int.ofNat i + 1) = Int.ofNat (i + 1) := by
  rw [w64 (by show -9223372036854775808 ≤ (i : Int) + 1; omega) (by show (i : Int) + 1 < _; omega)]; rfl
theorem bytes_of : ∀ L : List Int, ∃ l, bytesOf (L.map u8) = some l
  | [] => ⟨[], rfl⟩
  | x :: r => by
    obtain ⟨l, hl⟩ := bytes_of r
    exact ⟨UInt8.ofNat x.toNat :: l, by simp [bytesOf, u8, hl]⟩
theorem ok_a0 : okCode (nav [0] B) = true := by kernel_rfl
theorem ok_a1 : okCode (nav [1, 0] B) = true := by kernel_rfl
theorem ok_a2 : okCode (nav [1, 1, 0] B) = true := by kernel_rfl
theorem ok_a3 : okCode (nav [1, 1, 1, 0, 0] B) = true := by kernel_rfl
theorem ok_b0 : okCode (nav (pW ++ [0]) B) = true := by kernel_rfl
theorem ok_b1 : okCode (nav (pW ++ [1, 0, 0, 0]) B) = true := by kernel_rfl
theorem ok_b2 : okCode (nav (pW ++ [1, 0, 0, 1, 0]) B) = true := by kernel_rfl
theorem ok_b3 : okCode (nav (pW ++ [1, 0, 0, 1, 1, 0]) B) = true := by kernel_rfl
theorem ok_b4 : okCode (nav (pW ++ [1, 0, 0, 1, 1, 1]) B) = true := by kernel_rfl
theorem ok_b5 : okCode (nav (pW ++ [1, 1]) B) = true := by kernel_rfl
theorem ok_c0 : okCode (nav [1, 1, 1, 1, 0] B) = true := by kernel_rfl
theorem ok_c1 : okCode (nav [1, 1, 1, 1, 1, 0] B) = true := by kernel_rfl
theorem ok_c2 : okCode (nav [1, 1, 1, 1, 1, 1, 0, 0] B) = true := by kernel_rfl
theorem ok_d0 : okCode (nav (pR ++ [0]) B) = true := by kernel_rfl
theorem ok_d1 : okCode (nav (pR ++ [1, 0, 0, 0]) B) = true := by kernel_rfl
theorem ok_d2 : okCode (nav (pR ++ [1, 0, 0, 1, 0]) B) = true := by kernel_rfl
theorem ok_d3 : okCode (nav (pR ++ [1, 0, 0, 1, 1]) B) = true := by kernel_rfl
theorem ok_d4 : okCode (nav (pR ++ [1, 1]) B) = true := by kernel_rfl
theorem ok_e0 : okCode (nav [1, 1, 1, 1, 1, 1, 1] B) = true := by kernel_rfl
noncomputable abbrev LB : Code := .seq (nav (pW ++ [0]) B) (.seq (.block 1 (.seq (nav (pW ++ [1, 0, 0, 0]) B) (.seq (nav (pW ++ [1, 0, 0, 1, 0]) B) (.seq (nav (pW ++ [1, 0, 0, 1, 1, 0]) B) (nav (pW ++ [1, 0, 0, 1, 1, 1]) B))))) (nav (pW ++ [1, 1]) B))
noncomputable abbrev RB : Code := .seq (nav (pR ++ [0]) B) (.seq (.block 3 (.seq (nav (pR ++ [1, 0, 0, 0]) B) (.seq (nav (pR ++ [1, 0, 0, 1, 0]) B) (nav (pR ++ [1, 0, 0, 1, 1]) B)))) (nav (pR ++ [1, 1]) B))
theorem shape : Try.f5.body = some (.seq (nav [0] B) (.seq (nav [1, 0] B) (.seq (nav [1, 1, 0] B) (.seq (.seq (nav [1, 1, 1, 0, 0] B) (.block 0 (.loop LB))) (.seq (nav [1, 1, 1, 1, 0] B) (.seq (nav [1, 1, 1, 1, 1, 0] B) (.seq (.seq (nav [1, 1, 1, 1, 1, 1, 0, 0] B) (.block 2 (.loop RB))) (nav [1, 1, 1, 1, 1, 1, 1] B)))))))) := by kernel_rfl
/-- What was handed in, one element after the other. -/
structure Elems (W : World) (n : Nat) where
  X : Nat → Int
  BS : Nat → List Int
  AA : Nat → Array Value
  bv : Nat → Value
  l0 : Ev.Loc
  l1 : Nat → Ev.Loc
  pins : ∀ i, PinsOk G W (pinL (AA i, (BS i).map u8) l0 (l1 i))
  word : ∀ i, i < n → 0 + i * 3 + 1 + 1 ≤ (AA i).size ∧ (AA i).extract (0 + i * 3 + 1) (0 + i * 3 + 1 + 1) = #[.int .i64 (X i)]
  cell : ∀ i, i < n → 0 + i * 3 + 2 + 1 ≤ (AA i).size ∧ (AA i).extract (0 + i * 3 + 2) (0 + i * 3 + 2 + 1) = #[bv i]
  kind : ∀ i, i < n → (bv i = .slice none 0 0 ∧ BS i = []) ∨ bv i = bV (BS i).length
section
variable {W : World} {n : Nat} (E : Elems W n)
def Elems.AB (i : Nat) : Array Value × List Value := (E.AA i, (E.BS i).map u8)
def num (x : Int) : List Int := [x % 256, x / 256 % 256, x % 256, x / 16777216 % 256, x / 65536 % 256, x / 256 % 256, x % 256]
def Elems.enc (i : Nat) : List Int := num (E.X i) ++ (E.BS i).take 50
def Elems.pre {W : World} {n : Nat} (E : Elems W n) : Nat → List Int
  | 0 => []
  | i + 1 => Elems.pre E i ++ E.enc i
theorem enc_len (i : Nat) : (E.enc i).length ≤ 57 := by simp [Elems.enc, num]; omega
theorem pre_len : ∀ i, (E.pre i).length ≤ 57 * i
  | 0 => by simp [Elems.pre]
  | i + 1 => by
    have := pre_len i
    have := enc_len E i
    simp only [Elems.pre, List.length_append]; omega
theorem x_c {i : Nat} (h : i < n) : xC (E.AA i) i (E.X i) := E.word i h
theorem b_c {i : Nat} (h : i < n) : bC (E.AA i) i (E.bv i) := E.cell i h
abbrev Gs (i j : Nat) (p : List Nat) (L : List AObj) (K : List (Nat × Value)) (e : AExit) (L' : List AObj) (K' : List (Nat × Value)) : Prop := Gq W E.l0 (E.l1 i) (E.l1 j) (E.AB i) (E.AB j) p L K e L' K'
/-- Behind the first byte: the rest of one round. -/
theorem w_rest {i : Nat} (hi : i < n) (h30 : i < 30) (p : List Int) (hp : p.length ≤ 2000) :
    Gs E i i (pW ++ [1, 0, 0, 1, 0]) [wObj p.length, cObj (rowU p)] (KH n i) .normal [wObj (p.length + 2), cObj (rowU (p ++ [E.X i / 256 % 256, E.X i % 256]))] (KH n i) := by
  have r := w_16 n p.length i 0 (E.X i) (E.AA i) (rowU p) ((E.BS i).map u8)
  have e1 : C1 (rowU p) p.length (byt (E.X i) 1) = rowU (p ++ [E.X i / 256 % 256]) := by rw [byt1, C1_row]
  have e2 : C1 (rowU (p ++ [E.X i / 256 % 256])) (p.length + 1) (byt (E.X i) 0) = rowU (p ++ [E.X i / 256 % 256, E.X i % 256]) := by
    rw [byt0, show p.length + 1 = (p ++ [E.X i / 256 % 256]).length by simp, C1_row]; simp
  rw [e1, e2] at r
  exact gq (E.pins i) ok_b2 r (ac (le_c (by omega)) (ac (sz_d _ _ (by simp)) (ac (le_c (by omega)) (ac (sz_c p) (ac (x_c E hi) (ac (n_c hi) an)))))) (ac (rowU_plain _) an)
theorem w_word {i : Nat} (hi : i < n) (p : List Int) (hp : p.length ≤ 2000) :
    Gs E i i (pW ++ [1, 0, 0, 1, 1, 0]) [wObj p.length, cObj (rowU p)] (KH n i) .normal [wObj (p.length + 4), cObj (rowU (p ++ [E.X i / 16777216 % 256, E.X i / 65536 % 256, E.X i / 256 % 256, E.X i % 256]))] (KH n i) := by
  have r := w_32 n p.length i 0 (E.X i) (E.AA i) (rowU p) ((E.BS i).map u8)
  have e1 : C1 (rowU p) p.length (byt (E.X i) 3) = rowU (p ++ [E.X i / 16777216 % 256]) := by rw [byt3, C1_row]
  have e2 : C1 (rowU (p ++ [E.X i / 16777216 % 256])) (p.length + 1) (byt (E.X i) 2) = rowU (p ++ [E.X i / 16777216 % 256, E.X i / 65536 % 256]) := by
    rw [byt2, show p.length + 1 = (p ++ [E.X i / 16777216 % 256]).length by simp, C1_row]; simp
  have e3 : C1 (rowU (p ++ [E.X i / 16777216 % 256, E.X i / 65536 % 256])) (p.length + 1 + 1) (byt (E.X i) 1) = rowU (p ++ [E.X i / 16777216 % 256, E.X i / 65536 % 256, E.X i / 256 % 256]) := by
    rw [byt1, show p.length + 1 + 1 = (p ++ [E.X i / 16777216 % 256, E.X i / 65536 % 256]).length by simp, C1_row]; simp
  have e4 : C1 (rowU (p ++ [E.X i / 16777216 % 256, E.X i / 65536 % 256, E.X i / 256 % 256])) (p.length + 1 + 1 + 1) (byt (E.X i) 0) = rowU (p ++ [E.X i / 16777216 % 256, E.X i / 65536 % 256, E.X i / 256 % 256, E.X i % 256]) := by
    rw [byt0, show p.length + 1 + 1 + 1 = (p ++ [E.X i / 16777216 % 256, E.X i / 65536 % 256, E.X i / 256 % 256]).length by simp, C1_row]; simp
  rw [e1, e2, e3, e4] at r
  exact gq (E.pins i) ok_b3 r (ac (le_c (by omega)) (ac (sz_d _ _ (by simp)) (ac (le_c (by omega)) (ac (sz_d _ _ (by simp)) (ac (le_c (by omega)) (ac (sz_d _ _ (by simp)) (ac (le_c (by omega)) (ac (sz_c p) (ac (x_c E hi) (ac (n_c hi) an)))))))))) (ac (rowU_plain _) an)
theorem w_bytes {i : Nat} (hi : i < n) (p : List Int) (hp : p.length ≤ 2000) :
    Gs E i i (pW ++ [1, 0, 0, 1, 1, 1]) [wObj p.length, cObj (rowU p)] (KH n i) .normal [wObj (p ++ (E.BS i).take 50).length, cObj (rowU (p ++ (E.BS i).take 50))] (KH n i) := by
  have hb := b_c E hi
  have hsz : (rowObj ((E.BS i).map u8)).cells.size = (E.BS i).length := by simp [rowObj]
  rcases E.kind i hi with ⟨h1, h2⟩ | h1
  · rw [h1] at hb
    rw [h2]
    simp only [List.take_nil, List.append_nil]
    exact gq (E.pins i) ok_b4 (w_none n p.length i 0 (E.X i) (E.AA i) (rowU p) ((E.BS i).map u8)) (ac hb (ac (n_c hi) an)) (ac (rowU_plain _) an)
  · rw [h1] at hb
    by_cases h3 : (E.BS i).length > 50
    · have r := w_big n p.length i (E.BS i).length (E.X i) (E.AA i) (rowU p) ((E.BS i).map u8)
      rw [CN_row'] at r
      have hl : (p ++ (E.BS i).take 50).length = p.length + 50 := by simp; omega
      rw [hl]
      exact gq (E.pins i) ok_b4 r (ac (le_c (by omega)) (ac (sz_c p) (ac (decide_eq_true (by omega)) (ac (decide_eq_true (by omega)) (ac (decide_eq_true (by omega)) (ac hb (ac (n_c hi) an))))))) (ac (rowU_plain _) an)
    · by_cases h4 : (E.BS i).length = 0
      · have h5 : E.BS i = [] := List.length_eq_zero_iff.1 h4
        have r := w_zero n p.length i (E.BS i).length (E.X i) (E.AA i) (rowU p) ((E.BS i).map u8)
        have := gq (E.pins i) ok_b4 r (ac (beq_iff_eq.2 h4) (ac (decide_eq_true (by omega)) (ac (decide_eq_false (by omega)) (ac hb (ac (n_c hi) an))))) (ac (rowU_plain _) an)
        have ht : (E.BS i).take 50 = [] := by rw [h5]; rfl
        rw [ht, List.append_nil]
        exact this
      · have r := w_pos n p.length i (E.BS i).length (E.X i) (E.AA i) (rowU p) ((E.BS i).map u8)
        rw [CN_row] at r
        have ht : (E.BS i).take 50 = (E.BS i).take (E.BS i).length := by rw [List.take_of_length_le (by omega), List.take_length]
        have hl : (p ++ (E.BS i).take 50).length = p.length + (E.BS i).length := by simp; omega
        rw [hl, ht]
        exact gq (E.pins i) ok_b4 r (ac (le_c (by omega)) (ac (sz_c p) (ac (beq_eq_false_iff_ne.2 h4) (ac (decide_eq_true (by omega)) (ac (decide_eq_false (by omega)) (ac hb (ac (n_c hi) an))))))) (ac (rowU_plain _) an)

theorem w_round {i : Nat} (hi : i < n) (h30 : i < 30) (p : List Int) (hp : p = E.pre i) (L : List AObj)
    (h1 : Gs E i i (pW ++ [0]) L (KH n i) .normal L (KH n i)) (h2 : Gs E i i (pW ++ [1, 0, 0, 0]) L (KH n i) .normal [wObj (p.length + 1), cObj (rowU (p ++ [E.X i % 256]))] (KH n i)) :
    GoesQ Try.prog W (pinL (E.AB i) E.l0 (E.l1 i)) (pinL (E.AB (i + 1)) E.l0 (E.l1 (i + 1))) LB (HS (E.AB i) L) (tk NT (KH n i)) .normal (HS (E.AB (i + 1)) [wObj (E.pre (i + 1)).length, cObj (rowU (E.pre (i + 1)))]) (tk NT (KH n (i + 1))) := by
  have hl : p.length ≤ 1800 := by have := pre_len E i; rw [hp]; omega
  have a := w_rest E hi h30 (p ++ [E.X i % 256]) (by simp; omega)
  have b := w_word E hi (p ++ [E.X i % 256] ++ [E.X i / 256 % 256, E.X i % 256]) (by simp; omega)
  have c := w_bytes E hi (p ++ [E.X i % 256] ++ [E.X i / 256 % 256, E.X i % 256] ++ [E.X i / 16777216 % 256, E.X i / 65536 % 256, E.X i / 256 % 256, E.X i % 256]) (by simp; omega)
  have e1 : (p ++ [E.X i % 256]).length = p.length + 1 := by simp
  have e2 : (p ++ [E.X i % 256] ++ [E.X i / 256 % 256, E.X i % 256]).length = (p ++ [E.X i % 256]).length + 2 := by simp
  have e3 : (p ++ [E.X i % 256] ++ [E.X i / 256 % 256, E.X i % 256] ++ [E.X i / 16777216 % 256, E.X i / 65536 % 256, E.X i / 256 % 256, E.X i % 256]).length = (p ++ [E.X i % 256] ++ [E.X i / 256 % 256, E.X i % 256]).length + 4 := by simp
  have e4 : p ++ [E.X i % 256] ++ [E.X i / 256 % 256, E.X i % 256] ++ [E.X i / 16777216 % 256, E.X i / 65536 % 256, E.X i / 256 % 256, E.X i % 256] ++ (E.BS i).take 50 = E.pre (i + 1) := by
    rw [hp]; simp [Elems.pre, Elems.enc, num]
  rw [e4] at c
  rw [e3] at c
  rw [e2] at b
  rw [e1] at a
  have r := w_next n (E.pre (i + 1)).length i (E.AA i) (rowU (E.pre (i + 1))) (E.AA (i + 1)) ((E.BS i).map u8) ((E.BS (i + 1)).map u8)
  rw [up i (by omega)] at r
  have d := gn (l1 := E.l1 i) (E.pins (i + 1)) ok_b5 r an (ac (rowU_plain _) an)
  rw [← e1] at h2 a
  rw [← e2] at a b
  rw [← e3] at b c
  exact .seq h1 (.seq (.block (.seq h2 (.seq a (.seq b c)))) d)
/-- How many rounds there are. -/
def rounds (n : Nat) : Nat := min n 30
theorem w_loop : ∀ (k i : Nat), 1 ≤ i → i ≤ rounds n → rounds n ≤ i + k →
    GoesQL Try.prog W (pinL (E.AB i) E.l0 (E.l1 i)) (pinL (E.AB (rounds n)) E.l0 (E.l1 (rounds n))) (k + 1) LB (HS (E.AB i) [wObj (E.pre i).length, cObj (rowU (E.pre i))]) (tk NT (KH n i)) (.exit 0)
      (HS (E.AB (rounds n)) [wObj (E.pre (rounds n)).length, cObj (rowU (E.pre (rounds n)))]) (tk NT (KH n (rounds n))) := by
  intro k
  have stop : ∀ k i, i = rounds n → GoesQL Try.prog W (pinL (E.AB i) E.l0 (E.l1 i)) (pinL (E.AB (rounds n)) E.l0 (E.l1 (rounds n))) (k + 1) LB (HS (E.AB i) [wObj (E.pre i).length, cObj (rowU (E.pre i))]) (tk NT (KH n i)) (.exit 0)
      (HS (E.AB (rounds n)) [wObj (E.pre (rounds n)).length, cObj (rowU (E.pre (rounds n)))]) (tk NT (KH n (rounds n))) := by
    intro k i hi
    subst hi
    refine .exit (.seqExit ?_)
    by_cases hn : rounds n < n
    · exact gq (E.pins _) ok_b0 (w_end n _ (rounds n) 0 0 _ _ _) (ac (l30_f (by unfold rounds at *; omega)) (ac (lt_t hn) (ac (lt_t hn) (ac (lt_t hn) an)))) (ac (rowU_plain _) an)
    · exact gq (E.pins _) ok_b0 (w_out n _ (rounds n) 0 0 _ _ _) (ac (lt_f hn) (ac (lt_f hn) (ac (lt_f hn) an))) (ac (rowU_plain _) an)
  induction k with
  | zero => intro i h0 h1 h2; exact stop 0 i (by omega)
  | succ k ih =>
    intro i h0 h1 h2
    by_cases h : i = rounds n
    · exact stop _ i h
    have hi : i < n := by unfold rounds at h1 h; omega
    have h30 : i < 30 := by unfold rounds at h1 h; omega
    have hl := pre_len E i
    have g1 := gq (E.pins i) ok_b0 (w_go n (E.pre i).length i 0 0 (E.AA i) (rowU (E.pre i)) ((E.BS i).map u8)) (ac (l30_t h30) (ac (lt_t hi) (ac (lt_t hi) (ac (lt_t hi) an)))) (ac (rowU_plain _) an)
    have r := w_8 n (E.pre i).length i 0 (E.X i) (E.AA i) (rowU (E.pre i)) ((E.BS i).map u8)
    rw [byt0, C1_row] at r
    have g2 := gq (E.pins i) ok_b1 r (ac (le_c (by omega)) (ac (sz_c _) (ac (x_c E hi) (ac (n_c hi) an)))) (ac (rowU_plain _) an)
    exact .next (w_round E hi h30 _ rfl _ g1 g2) (ih (i + 1) (by omega) (by omega) (by omega))
/-- All that is written. -/
theorem w_all (hn : 0 < n) : GoesQ Try.prog W (pinL (E.AB 0) E.l0 (E.l1 0)) (pinL (E.AB (rounds n)) E.l0 (E.l1 (rounds n))) (.loop LB) (HS (E.AB 0) [w0Obj]) (tk NT (KH n 0)) (.exit 0)
      (HS (E.AB (rounds n)) [wObj (E.pre (rounds n)).length, cObj (rowU (E.pre (rounds n)))]) (tk NT (KH n (rounds n))) := by
  have g1 := gq (E.pins 0) ok_b0 (w_go0 n 0 0 0 0 (E.AA 0) #[] ((E.BS 0).map u8)) (ac (l30_t (by omega)) (ac (lt_t hn) (ac (lt_t hn) (ac (lt_t hn) an)))) an
  have r := w_80 n 0 0 0 (E.X 0) (E.AA 0) #[] ((E.BS 0).map u8)
  rw [byt0] at r
  have g2 := gq (E.pins 0) ok_b1 r (ac (x_c E hn) (ac (n_c hn) an)) (ac (rowU_plain [E.X 0 % 256]) an)
  exact GoesQL.loop (n := 31 + 1) (.next (w_round E hn (by omega) [] rfl _ g1 g2) (w_loop E 30 1 (by omega) (by unfold rounds; omega) (by unfold rounds; omega)))
/-- What one round that reads finds. -/
theorem pre_mono : ∀ (j i : Nat), i ≤ j → ∃ s, E.pre j = E.pre i ++ s
  | 0, i, h => ⟨[], by have : i = 0 := by omega
                       subst this; simp⟩
  | j + 1, i, h => by
    by_cases h1 : i = j + 1
    · subst h1; exact ⟨[], by simp⟩
    · obtain ⟨s, hs⟩ := pre_mono j i (by omega)
      exact ⟨s ++ E.enc j, by simp [Elems.pre, hs]⟩
theorem ex_at (a b s : List Int) (j : Nat) (m : Nat) (hm : j + m ≤ b.length) : (rowU (a ++ b ++ s)).extract (a.length + j) (a.length + j + m) = rowU ((b.drop j).take m) := by
  rw [exU]
  congr 1
  rw [List.append_assoc, List.drop_append, List.drop_of_length_le (by omega), List.nil_append, show a.length + j - a.length = j by omega, List.drop_append_of_le_length (by omega), List.take_append_of_le_length (by simp; omega)]
theorem facts {i : Nat} (hi : i < rounds n) : ∃ T, T = (E.pre (rounds n)).length ∧
    RdF n T (E.pre i).length i ((E.BS i).take 50).length (E.X i) (E.X i % 256) (E.X i / 256 % 256) (E.X i % 256) (E.X i / 16777216 % 256) (E.X i / 65536 % 256) (E.X i / 256 % 256) (E.X i % 256) (E.AA i) (rowU (E.pre (rounds n))) ((E.BS i).map u8) ∧
    (rowU (E.pre (rounds n))).extract ((E.pre i).length + 7) ((E.pre i).length + 7 + ((E.BS i).take 50).length) = rowU ((E.BS i).take 50) := by
  obtain ⟨s, hs⟩ := pre_mono E (rounds n) (i + 1) (by omega)
  simp only [Elems.pre] at hs
  have hin : i < n := by unfold rounds at hi; omega
  have hT : (E.pre (rounds n)).length ≤ 57 * 30 := by have := pre_len E (rounds n); unfold rounds at *; omega
  have he : (E.enc i).length = 7 + ((E.BS i).take 50).length := by simp [Elems.enc, num]; omega
  have hlen : (E.pre (rounds n)).length = (E.pre i).length + (7 + ((E.BS i).take 50).length) + s.length := by rw [hs]; simp only [List.length_append, he]
  have at1 : ∀ j v, j < 7 → ((E.enc i).drop j).take 1 = [v] → (rowU (E.pre (rounds n))).extract ((E.pre i).length + j) ((E.pre i).length + j + 1) = #[.int .u8 v] := by
    intro j v hj hv
    rw [hs, ex_at _ _ _ j 1 (by omega), hv]; rfl
  refine ⟨_, rfl, ⟨rowU_size _, by omega, by omega, by simp; omega, hin, E.word i hin, at1 0 _ (by omega) (by simp [Elems.enc, num]), at1 1 _ (by omega) (by simp [Elems.enc, num]), at1 2 _ (by omega) (by simp [Elems.enc, num]), at1 3 _ (by omega) (by simp [Elems.enc, num]), at1 4 _ (by omega) (by simp [Elems.enc, num]), at1 5 _ (by omega) (by simp [Elems.enc, num]), at1 6 _ (by omega) (by simp [Elems.enc, num]), rfl, rfl, rfl, rfl, rfl, rfl, rfl⟩, ?_⟩
  rw [hs, ex_at _ _ _ 7 _ (by omega)]
  congr 1
  simp [Elems.enc, num, List.take_of_length_le]
end
end WireBk
end Go.Proofs.Ytddlejbcnjmfmaa
