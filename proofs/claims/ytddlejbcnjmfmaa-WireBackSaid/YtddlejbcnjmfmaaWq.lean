/- P4.1: what is written is read: what was handed in. -/
import Derived.Test.YtddlejbcnjmfmaaWz
import Derived.Test.YtddlejbcnjmfmaaEvZ2
import Derived.Deep.Strs
namespace Go.Ev
open Go.RowKit Go.ChangeShapes Go.WideShapes Go.Deep
section
variable {P : Program} {H : Type} {enc : TypeId × Value → H}
theorem row_any2 {W : World} {b0 : Nat} {t e : TypeId} {v : Value} {d : DataW H} {p : List MemPlace} (ht : P.underlying t = some (.slice e)) (hk : 0 < P.cellsOf e)
    (hsc : ∀ (n : Nat) (cs : List Value) (x : DataW H × List MemPlace), DataW.trod enc P W 0 (fun _ => true) true n e cs = some x → ∀ c ∈ cs, scalar c = true)
    (hval : Value.okWide P W .any b0 t v) (hd : DataW.Trod enc P W 0 (fun _ => true) true t v d p) :
    v = .slice none 0 0 ∨ ∃ (a : Addr) (len cap : Nat) (Z : Nat → Value) (l : Loc), v = .slice (some a) len cap ∧ AnyRow W (P.cellsOf e) Z l a len cap ∧
      (∀ i, i < len → ∃ n x, DataW.trod enc P W 0 (fun _ => true) true n e ((List.range (P.cellsOf e)).map fun j => Z (i * P.cellsOf e + j)) = some x) ∧
      ∀ q, q < len * P.cellsOf e → W.cell? ⟨l.blk, l.shift + q, none⟩ = some (Z q) := by
  obtain ⟨a0, len, cap, rfl⟩ := okWide_slice ht hval
  obtain ⟨fuel, hf⟩ := hd
  have hcs : (Value.slice a0 len cap).cells.toList = [.slice a0 len cap] := by simp [Value.cells]
  rw [hcs] at hf
  rcases open_slice ht hf with ⟨h1, _⟩ | ⟨a, len', cap', m, n, D, Pl, h1, _, hl, hm, hmm, _, hx⟩
  · simp only [List.cons.injEq, and_true] at h1
    exact .inl h1
  · simp only [List.cons.injEq, Value.slice.injEq, and_true] at h1
    obtain ⟨rfl, rfl, rfl⟩ := h1
    right
    obtain ⟨_, ha, hblk⟩ := okWide_row ht hval
    simp only [if_true] at hmm
    have hml : len ≤ m := by omega
    -- the cells, one after the other
    have cellAt : ∀ i j, i < len → j < P.cellsOf e → ∃ c, W.cell? ⟨a.block, a.off + (i * P.cellsOf e + j), none⟩ = some c ∧ scalar c = true := by
      intro i j hi hj
      obtain ⟨cs', c1, c2⟩ := hx i (by omega)
      obtain ⟨_, q2, q3⟩ := World.cells?_some c1
      have hlt : j < cs'.length := by omega
      have := q3 j hj
      rw [List.getElem?_eq_getElem hlt, ha, add_plain] at this
      refine ⟨cs'[j], ?_, hsc _ _ _ c2 _ (List.getElem_mem hlt)⟩
      have e2 : (⟨a.block, a.off + i * P.cellsOf e, none⟩ : Addr).add j = ⟨a.block, a.off + (i * P.cellsOf e + j), none⟩ := by rw [add_plain]; simp [Nat.add_assoc]
      rw [e2] at this
      exact this
    have flatAt : ∀ q, q < len * P.cellsOf e → ∃ c, W.cell? ⟨a.block, a.off + q, none⟩ = some c ∧ scalar c = true := by
      intro q hq
      have h1 : q / P.cellsOf e < len := (Nat.div_lt_iff_lt_mul hk).2 hq
      have h2 := Nat.mod_lt q hk
      have h3 : q / P.cellsOf e * P.cellsOf e + q % P.cellsOf e = q := Nat.div_add_mod' q _
      have := cellAt _ _ h1 h2
      rw [h3] at this
      exact this
    refine ⟨a, len, cap, fun q => (W.cell? ⟨a.block, a.off + q, none⟩).getD undef, ⟨a.block, a.off, len * P.cellsOf e, P.cellsOf e, a.off + cap * P.cellsOf e, false⟩, rfl, ⟨hl, ⟨rfl, (absA_size _ _).symm, rfl, rfl, hblk, fun j hj => ?_⟩, ha, rfl, hk⟩, fun i hi => ?_, fun q hq => by
      obtain ⟨c, c1, _⟩ := flatAt q hq
      show W.cell? ⟨a.block, a.off + q, none⟩ = some ((W.cell? ⟨a.block, a.off + q, none⟩).getD undef)
      rw [c1]; rfl⟩
    · have hj' : j < len * P.cellsOf e := by rw [← absA_size (fun q => (W.cell? ⟨a.block, a.off + q, none⟩).getD undef) (len * P.cellsOf e)]; exact hj
      obtain ⟨c, c1, c2⟩ := flatAt j hj'
      refine ⟨c, c1, ?_⟩
      have : (absA (fun q => (W.cell? ⟨a.block, a.off + q, none⟩).getD undef) (len * P.cellsOf e))[j] = absV c := by
        rw [absA_get, c1]; rfl
      show scalar (absA _ _)[j] = true ∧ _
      rw [this]
      unfold absV
      by_cases hf : Ev.flat c = true
      · rw [if_pos hf]; exact ⟨c2, .inl ⟨hf, rfl⟩⟩
      · rw [if_neg hf]; exact ⟨rfl, .inr ⟨rfl, c2⟩⟩
    · obtain ⟨cs', c1, c2⟩ := hx i (by omega)
      obtain ⟨_, q2, q3⟩ := World.cells?_some c1
      refine ⟨n, (D i, Pl i), ?_⟩
      have : ((List.range (P.cellsOf e)).map fun j => ((W.cell? ⟨a.block, a.off + (i * P.cellsOf e + j), none⟩).getD undef)) = cs' := by
        apply List.ext_getElem?
        intro j
        rw [List.getElem?_map]
        by_cases hj : j < P.cellsOf e
        · rw [List.getElem?_range hj]
          have := q3 j hj
          rw [ha, add_plain, add_plain] at this
          simp only [Option.map_some]
          rw [List.getElem?_eq_getElem (by omega)] at this ⊢
          rw [show a.off + (i * P.cellsOf e + j) = a.off + i * P.cellsOf e + j by omega, this]; rfl
        · rw [List.getElem?_eq_none (by simp; omega), List.getElem?_eq_none (by omega)]; rfl
      rw [this]; exact c2
end
end Go.Ev
namespace Go.Proofs.Ytddlejbcnjmfmaa
open Go Go.Ev Go.RowKit Go.ChangeShapes Go.WideShapes Go.Deep
set_option maxRecDepth 100000
set_option linter.unusedVariables false
set_option linter.unusedSimpArgs false
set_option linter.unnecessarySimpa false
namespace WireBk
section
variable {H : Type} {enc : TypeId × Value → H} {W : World}
theorem part_cells {n : Nat} {cs : List Value} {x : DataW H × List MemPlace} (h : DataW.trod enc Try.prog W 0 (fun _ => true) true n 31 cs = some x) :
    ∃ (k m : Int) (s : Value), cs = [.int .i64 k, .int .i64 m, s] ∧ scalar s = true ∧ ∃ n' y, DataW.trod enc Try.prog W 0 (fun _ => true) true n' 23 [s] = some y := by
  obtain ⟨y0, y1, y2, r, _, hl, h0, h1, h2⟩ := trod_struct3 (f0 := { name := "Kind", type := 3, offset := 0, embedded := false, tag := "", pkgPath := "", byteOffset := 0 }) (f1 := { name := "N", type := 3, offset := 1, embedded := false, tag := "", pkgPath := "", byteOffset := 8 })
    (f2 := { name := "B", type := 23, offset := 2, embedded := false, tag := "", pkgPath := "", byteOffset := 16 }) (show Try.prog.underlying 31 = some (.struct _) by kernel_rfl) h
  have e3 : Try.prog.cellsOf 31 = 3 := by kernel_rfl
  have c3 : Try.prog.cellsOf 3 = 1 := by kernel_rfl
  have c23 : Try.prog.cellsOf 23 = 1 := by kernel_rfl
  rw [e3] at hl
  match cs, hl with
  | [p, q, s], _ =>
    simp only [c3, c23] at h0 h1 h2
    obtain ⟨k, q1, _, _⟩ := DataW.trod_int (show Try.prog.underlying 3 = some (.int .i64) by kernel_rfl) h0
    obtain ⟨m, q2, _, _⟩ := DataW.trod_int (show Try.prog.underlying 3 = some (.int .i64) by kernel_rfl) h1
    have q3 := DataW.trod_slice (show Try.prog.underlying 23 = some (.slice 5) by kernel_rfl) h2
    simp only [List.drop_zero, List.take_succ_cons, List.take_zero, List.cons.injEq, and_true, List.drop_succ_cons] at q1 q2 q3 h2
    subst q1 q2
    refine ⟨k, m, s, rfl, ?_, _, _, h2⟩
    rcases q3 with ⟨q3, _⟩ | ⟨a, l, c, _, _, _, _, q3, _⟩ <;> (rw [q3]; rfl)
theorem kind_of {s : Value} {n : Nat} {y : DataW H × List MemPlace} {l0 : Ev.Loc} (h0 : l0.blk < W.heap.size) (h : DataW.trod enc Try.prog W 0 (fun _ => true) true n 23 [s] = some y) :
    ∃ (bs : List Int) (v : Value) (l : Ev.Loc), ((v = .slice none 0 0 ∧ bs = []) ∨ v = bV bs.length) ∧ scalar v = true ∧ PRow G W [l0, l] (rowObj (bs.map u8)) l ∧ PCell G [l0, l] v s := by
  have empty : ∀ l : Ev.Loc, l = ⟨l0.blk, 0, 0, 1, 0, false⟩ → PRow G W [l0, l] (rowObj (([] : List Int).map u8)) l := fun l hl => by
    subst hl
    exact ⟨rfl, rfl, rfl, rfl, h0, fun j hj => absurd hj (by simp [rowObj])⟩
  rcases open_ints (show Try.prog.underlying 23 = some (.slice 5) by kernel_rfl) (show Try.prog.underlying 5 = some (.int .u8) by kernel_rfl) (by kernel_rfl) h with ⟨h1, _⟩ | ⟨a, len, cap, zs, h1, _, hl, _, hz, _, hcell, _⟩
  · simp only [List.cons.injEq, and_true] at h1
    subst h1
    exact ⟨[], .slice none 0 0, _, .inl ⟨rfl, rfl⟩, rfl, empty _ rfl, .inl ⟨rfl, rfl⟩⟩
  · simp only [List.cons.injEq, and_true] at h1
    simp only [if_true] at hz
    subst h1
    by_cases hc : cap = 0
    · subst hc
      have hl0 : len = 0 := by omega
      subst hl0
      exact ⟨[], bV 0, _, .inr rfl, rfl, empty _ rfl, .inr (.inr (.inr ⟨1, _, a, rfl, rfl, rfl, rfl, Nat.one_pos, rfl⟩))⟩
    · have h2 := hcell 0 (by omega)
      have hspot : a.spot = none := by
        simp only [Addr.add, if_true, World.cell?] at h2
        split at h2
        · split at h2
          · cases h2
          · rename_i hs
            cases hq : a.spot with
            | none => rfl
            | some q => rw [hq] at hs; simp at hs
        · cases h2
      obtain ⟨ab, ao, asp⟩ := a
      simp only at hspot
      subst hspot
      have hblk : ab < W.heap.size := by
        have := lt_of_cell (w := W) (a := (⟨ab, ao, none⟩ : Addr).add 0) (by rw [h2]; rfl)
        simpa [Addr.add] using this
      have hlen : (zs.take len).length = len := by rw [List.length_take]; omega
      refine ⟨zs.take len, bV (zs.take len).length, ⟨ab, ao, len, 1, ao + cap, false⟩, .inr rfl, rfl, ⟨rfl, by simp [rowObj]; omega, rfl, rfl, hblk, fun j hj => ?_⟩, ?_⟩
      · have hj' : j < len := by simp [rowObj] at hj; omega
        have hjz : j < zs.length := by omega
        have h3 := hcell j hjz
        have e : (⟨ab, ao, none⟩ : Addr).add j = ⟨ab, ao + j, none⟩ := add_plain _ _ _
        rw [e] at h3
        have hc2 : (rowObj ((zs.take len).map u8)).cells[j] = u8 (zs.getD j 0) := by
          simp [rowObj, List.getElem_take, List.getD, List.getElem?_eq_getElem hjz]
        exact ⟨_, h3, by rw [hc2]; rfl, by rw [hc2]; exact .inl ⟨rfl, rfl⟩⟩
      · rw [hlen]
        exact .inr (.inr (.inl ⟨1, len, cap, _, rfl, rfl, rfl, rfl, Nat.one_pos, by show len * 1 ≤ len; omega, by show len ≤ cap * 1; omega, by show ao + cap * 1 ≤ ao + cap; omega, hl⟩))
/-- What was handed in: none, or a list of elements. -/
def PartsB (W : World) (v : Value) : Prop := v = .slice none 0 0 ∨ ∃ (n : Nat) (E : Elems W n), LRel (hk G ((pinL (E.AB 0) E.l0 (E.l1 0)).map (·.1))).size (rhoRows G ((pinL (E.AB 0) E.l0 (E.l1 0)).map (·.2))) [rA n] [v]
theorem parts_open {b0 : Nat} {v : Value} {d : DataW H} {p : List MemPlace} (hval : Value.okWide Try.prog W .any b0 33 v) (hd : DataW.Trod enc Try.prog W 0 (fun _ => true) true 33 v d p) : PartsB W v := by
  have e3 : Try.prog.cellsOf 31 = 3 := by kernel_rfl
  rcases row_any2 (e := 31) (show Try.prog.underlying 33 = some (.slice 31) by kernel_rfl) (by rw [e3]; omega) (fun n cs x h c hc => by
    obtain ⟨k, m, s, rfl, hs, _⟩ := part_cells h
    simp only [List.mem_cons, List.not_mem_nil, or_false] at hc
    rcases hc with rfl | rfl | rfl
    · rfl
    · rfl
    · exact hs) hval hd with rfl | ⟨a, len, cap, Z, l0, rfl, hr, hx, hq⟩
  · exact .inl rfl
  · rw [e3] at hr hx hq
    right
    have each : ∀ i, ∃ (m : Int) (bs : List Int) (v : Value) (l : Ev.Loc), PRow G W [l0, l] (rowObj (bs.map u8)) l ∧ (i < len → Z (i * 3 + 1) = .int .i64 m ∧ ((v = .slice none 0 0 ∧ bs = []) ∨ v = bV bs.length) ∧ scalar v = true ∧ PCell G [l0, l] v (Z (i * 3 + 2))) := by
      intro i
      by_cases hi : i < len
      · obtain ⟨n, x, h⟩ := hx i hi
        obtain ⟨k, m, s, e, _, n', y, hy⟩ := part_cells h
        obtain ⟨bs, v, l, h1, h2, h3, h4⟩ := kind_of (l0 := l0) hr.has.blk hy
        have z1 := congrArg (fun z : List Value => z[1]?) e
        have z2 := congrArg (fun z : List Value => z[2]?) e
        have z1 : Z (i * 3 + 1) = .int .i64 m := by simpa using z1
        have z2 : Z (i * 3 + 2) = s := by simpa using z2
        exact ⟨m, bs, v, l, h3, fun _ => ⟨z1, h1, h2, by rw [z2]; exact h4⟩⟩
      · exact ⟨0, [], .slice none 0 0, ⟨l0.blk, 0, 0, 1, 0, false⟩, ⟨rfl, rfl, rfl, rfl, hr.has.blk, fun j hj => absurd hj (by simp [rowObj])⟩, fun h => absurd h hi⟩
    obtain ⟨X, c1⟩ := Classical.axiomOfChoice each
    obtain ⟨BS, c2⟩ := Classical.axiomOfChoice c1
    obtain ⟨VV, c3⟩ := Classical.axiomOfChoice c2
    obtain ⟨L1, c4⟩ := Classical.axiomOfChoice c3
    have hrow := fun i => (c4 i).1
    have hel := fun i => (c4 i).2
    let AA : Nat → Array Value := fun i => ⟨(List.range (len * 3)).map fun j => if j = i * 3 + 2 then (if i < len then VV i else gone) else absV (Z j)⟩
    have asz : ∀ i, (AA i).size = len * 3 := fun i => by simp [AA]
    have aget : ∀ i j (hj : j < (AA i).size), (AA i)[j] = if j = i * 3 + 2 then (if i < len then VV i else gone) else absV (Z j) := fun i j hj => by simp [AA]
    have ext1 : ∀ i j w, j < len * 3 → (∀ hj : j < (AA i).size, (AA i)[j] = w) → j + 1 ≤ (AA i).size ∧ (AA i).extract j (j + 1) = #[w] := by
      intro i j w hj hw
      refine ⟨by rw [asz]; omega, ?_⟩
      have hj2 : j < (AA i).size := by rw [asz]; exact hj
      apply Array.ext
      · simp; omega
      · intro q h1 h2
        have : q = 0 := by simp at h2; exact h2
        subst this
        simp [hw hj2]
    refine ⟨len, { X := X, BS := BS, AA := AA, bv := VV, l0 := l0, l1 := L1, pins := fun i => ?_, word := fun i hi => ?_, cell := fun i hi => ?_, kind := fun i hi => (hel i hi).2.1 }, .cons (hr.rel (ls := _) (i := 0) rfl (by simp [hk, pinL])) .nil⟩
    · intro p hp
      simp only [pinL, List.mem_cons, List.not_mem_nil, or_false] at hp
      rcases hp with rfl | rfl
      · refine ⟨rfl, by show l0.size = (AA i).size; rw [asz, hr.has.size]; exact absA_size _ _, hr.has.esz, hr.has.bad, hr.has.blk, fun j hj => ?_⟩
        have hj2 : j < len * 3 := by rw [← asz i]; exact hj
        refine ⟨Z j, hq j hj2, ?_⟩
        have hja2 : j < (AA i).size := by rw [asz]; exact hj2
        suffices hh : scalar ((AA i)[j]'hja2) = true ∧ PCell G [l0, L1 i] ((AA i)[j]'hja2) (Z j) from hh
        generalize hgen : (AA i)[j]'hja2 = w
        rw [aget i j hja2] at hgen
        subst hgen
        have zsc : scalar (Z j) = true := by
          have hja : j < (absA Z (len * 3)).size := by rw [absA_size]; exact hj2
          obtain ⟨c', c1, c2, c3⟩ := hr.has.cell j hja
          have hz := hq j hj2
          rw [hz] at c1
          simp only [Option.some.injEq] at c1
          subst c1
          have e : (absA Z (len * 3))[j] = absV (Z j) := absA_get _ _ _ hja
          rcases c3 with ⟨c3, c4⟩ | ⟨_, c4⟩
          · rw [c4]; exact c2
          · exact c4
        by_cases h1 : j = i * 3 + 2
        · rw [if_pos h1]
          by_cases hi : i < len
          · rw [if_pos hi]
            obtain ⟨_, _, h3, h4⟩ := hel i hi
            rw [h1]; exact ⟨h3, h4⟩
          · rw [if_neg hi]; exact ⟨rfl, .inr (.inl ⟨rfl, zsc⟩)⟩
        · rw [if_neg h1]
          unfold absV
          by_cases hf : Ev.flat (Z j) = true
          · rw [if_pos hf]; exact ⟨zsc, .inl ⟨hf, rfl⟩⟩
          · rw [if_neg hf]; exact ⟨rfl, .inr (.inl ⟨rfl, zsc⟩)⟩
      · exact hrow i
    · have := ext1 i (0 + i * 3 + 1) (.int .i64 (X i)) (by omega) (fun hj => by
        rw [aget, if_neg (by omega), show 0 + i * 3 + 1 = i * 3 + 1 by omega, (hel i hi).1]; rfl)
      exact this
    · have := ext1 i (0 + i * 3 + 2) (VV i) (by omega) (fun hj => by
        rw [aget, if_pos (by omega), if_pos hi])
      exact this
end
theorem walk (v : Value) (W : World) (h : PartsB W v) : Calls Try.prog 5 #[v] W fun e W' => e = .returned (.bool true) ∧ Below W.heap.size W W' := by
  rcases h with rfl | ⟨n, E, h⟩
  · exact walkN W
  · exact walkE E v h
end WireBk
end Go.Proofs.Ytddlejbcnjmfmaa
