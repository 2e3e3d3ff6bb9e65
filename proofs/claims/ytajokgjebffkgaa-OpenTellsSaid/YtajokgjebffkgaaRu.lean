/- OpenTells: the walk. -/
import Derived.Test.YtajokgjebffkgaaRt
namespace Go.Proofs.Ytajokgjebffkgaa
open Go Go.Ev Go.RowKit
set_option maxRecDepth 100000
namespace OpenRead
def byte (n : Int) : Prop := 0 ≤ n ∧ n < 256
theorem byte_wrap (x : Int) : byte (wrapF .u8 x) := by
  unfold byte; simp only [wrapF]
  exact ⟨Int.emod_nonneg _ (by decide), Int.emod_lt_of_pos _ (by decide)⟩
theorem ok_byte {n : Int} (h : byte n) : intOk .u8 (.int .u8 n) = true := by
  unfold byte at h
  simp [intOk, Lit.wf, IntKind.min, IntKind.max, IntKind.signed, IntKind.bits]; omega
theorem ok_ints {l : List Int} (h : ∀ n ∈ l, byte n) : (ints l).all (intOk .u8) = true := by
  rw [List.all_eq_true]
  intro v hv
  obtain ⟨n, hn, rfl⟩ := List.mem_map.1 hv
  exact ok_byte (h n hn)
theorem ok_mk {z : Nat → Int} (h : ∀ i, byte (z i)) (L : Nat) : (mkI .u8 z L).all (intOk .u8) = true := by
  rw [List.all_eq_true]
  intro v hv
  obtain ⟨n, _, rfl⟩ := List.mem_map.1 hv
  exact ok_byte (h n)
theorem xs_byte (a h d : Int) : ∀ n ∈ xs a h d, byte n := by
  simp only [xs, List.forall_mem_cons]
  refine ⟨by unfold byte; omega, byte_wrap _, byte_wrap _, byte_wrap _, byte_wrap _, byte_wrap _, byte_wrap _, byte_wrap _, byte_wrap _, by unfold byte; omega, by simp⟩
theorem getD_byte {l : List Int} (h : ∀ n ∈ l, byte n) (m : Nat) : byte (l.getD m 0) := by
  by_cases hm : m < l.length
  · rw [List.getD_eq_getElem?_getD, List.getElem?_eq_getElem hm]; exact h _ (List.getElem_mem hm)
  · rw [List.getD_eq_getElem?_getD, List.getElem?_eq_none (by omega)]; unfold byte; simp
theorem turned_byte {l : List Int} (h : ∀ n ∈ l, byte n) (m : Nat) {t : Int} (ht : byte t) : ∀ n ∈ turned l m t, byte n := by
  intro n hn
  unfold turned at hn
  rcases List.mem_or_eq_of_mem_set hn with h1 | rfl
  · exact h n h1
  · have g := getD_byte h m
    unfold byte at *
    have := Nat.xor_lt_two_pow (n := 8) (show (l.getD m 0).toNat < 2 ^ 8 by omega) (show t.toNat < 2 ^ 8 by omega)
    omega
theorem fits_byte {n : Int} (h : byte n) : fitsU .u8 n = true := by
  unfold byte at h
  obtain ⟨x, rfl⟩ : ∃ x : Nat, n = x := ⟨n.toNat, by omega⟩
  exact Nat.ble_eq_true_of_le (show x ≤ 255 by omega)
theorem cap_ok {k : Nat} {cells : List Value} (h : k ≤ cells.length) : capB k cells = true := by
  unfold capB
  exact decide_eq_true ⟨by omega, by rw [Nat.sub_zero, Nat.div_one]; show (k : Int) ≤ (cells.length : Int); omega⟩
theorem t_n {w1 w2 i w3 t : Int} {π : List Ans} {cs : List Prop} (h1 : TNRow w1 w2 i w3 t π cs) (g : ∀ p ∈ cs, p) (W : World) :
    Calls Try.prog 10 ⟨[.int .i64 w1, .int .i64 w2, .int .u32 i, .slice none 0 0, .int .i64 w3, .int .u8 t]⟩ W fun e W' => e = .returned (.bool true) ∧ Below W.heap.size W W' :=
  calls_of_run E7_sound good Try.func10 rfl h1 g rfl rfl W
theorem t_s {w1 w2 i w3 t : Int} {cells : List Value} {π : List Ans} {cs : List Prop} {len cap : Nat} {ad : Addr} {l : Ev.Loc} (h2 : TRow w1 w2 i w3 t cells len π cs) (g : ∀ p ∈ cs, p) (W : World)
    (hfit : RowFits W cells l) (hcap : len ≤ cap) (ha : ad = ⟨l.blk, l.shift, none⟩) (hr : l.room = l.shift + cap) (hs : l.size = len) :
    Calls Try.prog 10 ⟨pre3 w1 w2 i ++ .slice (some ad) len cap :: post2 w3 t⟩ W fun e W' => e = .returned (.bool true) ∧ Below W.heap.size W W' :=
  calls_of_row1 (pre := pre3 w1 w2 i) (post := post2 w3 t) E7_sound good Try.func10 rfl h2 g rfl W hfit rfl rfl hcap ha hr hs
theorem tells_walk (w1 w2 i : Int) (v : Value) (w3 t : Int) (_ : (Lit.int .i64 w1).wf = true) (_ : (Lit.int .i64 w2).wf = true) (wi : (Lit.int .u32 i).wf = true) (_ : (Lit.int .i64 w3).wf = true) (wt : (Lit.int .u8 t).wf = true) (W : World) (hv : IntsArg W .u8 v) :
    Calls Try.prog 10 #[.int .i64 w1, .int .i64 w2, .int .u32 i, v, .int .i64 w3, .int .u8 t] W fun e W' => e = .returned (.bool true) ∧ Below W.heap.size W W' := by
  have hi : 0 ≤ i ∧ i < 4294967296 := by simp [Lit.wf, IntKind.min, IntKind.max, IntKind.signed, IntKind.bits] at wi; omega
  have ht : byte t := by unfold byte; simp [Lit.wf, IntKind.min, IntKind.max, IntKind.signed, IntKind.bits] at wt; omega
  have m1 := Int.emod_nonneg w1 (show (65535 : Int) ≠ 0 by decide)
  have m2 := Int.emod_lt_of_pos w1 (show (0 : Int) < 65535 by decide)
  have m3 := Int.emod_nonneg w2 (show (65533 : Int) ≠ 0 by decide)
  have m4 := Int.emod_lt_of_pos w2 (show (0 : Int) < 65533 by decide)
  have m5 := Int.emod_nonneg w3 (show (10 : Int) ≠ 0 by decide)
  have m6 := Int.emod_lt_of_pos w3 (show (0 : Int) < 10 by decide)
  have h1 : withinV w1 0 65534 = w1 % 65535 := by unfold withinV; rw [Int.zero_add]; rfl
  have h2 : withinV w2 0 65532 = w2 % 65533 := by unfold withinV; rw [Int.zero_add]; rfl
  have h3 : withinV w3 0 9 = w3 % 10 := by unfold withinV; rw [Int.zero_add]; rfl
  obtain ⟨m, hm⟩ : ∃ m : Nat, w3 % 10 = m := ⟨(w3 % 10).toNat, by omega⟩
  have hm9 : m ≤ 9 := by omega
  obtain ⟨I, rfl⟩ : ∃ I : Nat, i = I := ⟨i.toNat, by omega⟩
  have hd : orI (I : Int) = ((I ||| 1 : Nat) : Int) := by unfold orI; rw [Int.toNat_natCast]; rfl
  have hdl : (I ||| 1) < 4294967296 := Nat.or_lt_two_pow (n := 32) (by omega) (by decide)
  have s1 : sameB (I : Int) = true := by unfold sameB; rw [decide_eq_true (by omega), decide_eq_true (by omega)]; rfl
  have s2 : sameB (orI (I : Int)) = true := by rw [hd]; unfold sameB; rw [decide_eq_true (by omega), decide_eq_true (by omega)]; rfl
  have f1 : (fitsU .u32 (I : Int) && fitsU .u32 1) = true := by
    have : fitsU .u32 (I : Int) = true := Nat.ble_eq_true_of_le (show I ≤ 4294967295 by omega)
    rw [this]; rfl
  have e1 : wrapF .i64 (1 + w1 % 65535) = 1 + w1 % 65535 := wrap64 (by omega) (by omega)
  have e2 : wrapF .i64 (3 + w2 % 65533) = 3 + w2 % 65533 := wrap64 (by omega) (by omega)
  have xb := xs_byte (1 + w1 % 65535) (3 + w2 % 65533) (orI (I : Int))
  have tb := turned_byte xb m ht
  have hx : rowC 10 (ints (xs (1 + w1 % 65535) (3 + w2 % 65533) (orI (I : Int)))) := ⟨by decide, ok_ints xb⟩
  have hx2 : rowC 10 (ints (turned (xs (1 + w1 % 65535) (3 + w2 % 65533) (orI (I : Int))) m t)) := ⟨by decide, ok_ints tb⟩
  have hf : (fitsU .u8 ((xs (1 + w1 % 65535) (3 + w2 % 65533) (orI (I : Int))).getD m 0) && fitsU .u8 t) = true := by rw [fits_byte (getD_byte xb m), fits_byte ht]; rfl
  have head : ∀ p ∈ headC w1 w2 (I : Int) (w1 % 65535) (w2 % 65533) (1 + w1 % 65535) (3 + w2 % 65533), p := by
    simp only [headC, List.forall_mem_cons]
    exact ⟨hx, s2, s1, f1, by rw [e2], by rw [h2], by rw [e1], by rw [h1], by simp⟩
  have mid : ∀ {c : List Prop}, (∀ p ∈ c, p) → ∀ p ∈ midC (I : Int) w3 t (1 + w1 % 65535) (3 + w2 % 65533) m c, p := by
    intro c hc
    simp only [midC, List.forall_mem_cons]
    exact ⟨hx2, hf, by rw [h3, hm], hc⟩
  have app : ∀ {z : Nat → Int}, (∀ i, byte (z i)) → ∀ L, L ≤ 5 → rowC (10 + L) (ints (turned (xs (1 + w1 % 65535) (3 + w2 % 65533) (orI (I : Int))) m t) ++ mkI .u8 z L) := by
    intro z hz L hL
    exact ⟨by omega, by rw [List.all_append, ok_ints tb, ok_mk hz]; rfl⟩
  rcases hv with rfl | ⟨ad, len, cap, zs, l, rfl, hlen, hcap, hwf, hfit, ha, hr, hs⟩
  · refine t_n (tns w1 w2 (I : Int) w3 t (w1 % 65535) (w2 % 65533) (1 + w1 % 65535) (3 + w2 % 65533) m hm9) ?_ W
    simp only [cN, List.forall_mem_cons]
    exact ⟨hx2, mid head⟩
  have zb : ∀ i, byte (zs.getD i 0) := by
    intro i
    refine getD_byte (fun n hn => ?_) i
    have := hwf n hn
    unfold byte
    simp [Lit.wf, IntKind.min, IntKind.max, IntKind.signed, IntKind.bits] at this
    omega
  have allz : (zs.map (Value.int .u8)).all (intOk .u8) = true := by rw [mkI_all]; exact ok_mk zb _
  by_cases h5 : len ≤ 5
  · rw [mkI_all, hlen] at hfit
    refine t_s (tss w1 w2 (I : Int) w3 t (w1 % 65535) (w2 % 65533) (1 + w1 % 65535) (3 + w2 % 65533) _ m hm9 len h5) ?_ W hfit hcap ha hr hs
    simp only [cS, List.forall_mem_cons]
    refine ⟨app zb len h5, mid ?_⟩
    simp only [List.forall_mem_cons]
    exact ⟨⟨by omega, ok_mk zb _⟩, head⟩
  have n5 : decide (((len : Nat) : Int) > 5) = true := decide_eq_true (by omega)
  by_cases h60 : len ≤ 60
  · have hsz : (mkI .u8 (fun i => zs.getD i 0) 6 ++ (zs.drop 6).map (Value.int .u8)).length = len := by rw [← mkI_of zs 6 (by omega)]; simp [hlen]
    have hall : ((⟨mkI .u8 (fun i => zs.getD i 0) 6 ++ (zs.drop 6).map (Value.int .u8)⟩ : Array Value).extract 0 (0 + len)).toList.all (intOk .u8) = true := by
      have : ((⟨mkI .u8 (fun i => zs.getD i 0) 6 ++ (zs.drop 6).map (Value.int .u8)⟩ : Array Value).extract 0 (0 + len)).toList = zs.map (Value.int .u8) := by
        rw [← mkI_of zs 6 (by omega)]
        simp only [← hlen, Array.toList_extract, Nat.zero_add, List.extract_eq_take_drop, List.drop_zero, Nat.sub_zero]
        exact List.take_of_length_le (by simp)
      rw [this]; exact allz
    rw [mkI_of zs 6 (by omega)] at hfit
    refine t_s (tms w1 w2 (I : Int) w3 t (w1 % 65535) (w2 % 65533) (1 + w1 % 65535) (3 + w2 % 65533) _ _ len m hm9) ?_ W hfit hcap ha hr hs
    simp only [cM, List.forall_mem_cons]
    refine ⟨app zb 5 (Nat.le_refl _), cap_ok (by rw [hsz]; omega), n5, mid ?_⟩
    simp only [List.forall_mem_cons]
    exact ⟨⟨h60, hall⟩, decide_eq_false (by omega), head⟩
  · have hsz : (mkI .u8 (fun i => zs.getD i 0) 61 ++ (zs.drop 61).map (Value.int .u8)).length = len := by rw [← mkI_of zs 61 (by omega)]; simp [hlen]
    rw [mkI_of zs 61 (by omega)] at hfit
    refine t_s (tls w1 w2 (I : Int) w3 t (w1 % 65535) (w2 % 65533) (1 + w1 % 65535) (3 + w2 % 65533) _ _ len m hm9) ?_ W hfit hcap ha hr hs
    simp only [cL, List.forall_mem_cons]
    refine ⟨app zb 5 (Nat.le_refl _), cap_ok (by rw [hsz]; omega), n5, mid ?_⟩
    simp only [List.forall_mem_cons]
    exact ⟨⟨Nat.le_refl _, ok_mk zb _⟩, cap_ok (by rw [hsz]; omega), decide_eq_true (by omega), head⟩
end OpenRead
end Go.Proofs.Ytajokgjebffkgaa
