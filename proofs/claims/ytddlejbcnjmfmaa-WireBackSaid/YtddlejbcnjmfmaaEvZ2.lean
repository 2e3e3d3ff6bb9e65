/- A SLICE OF ANYTHING THAT WAS HANDED IN: none, or a row, of which the plain cells are known. -/
import Derived.Test.YtddlejbcnjmfmaaEvZ
namespace Go.Ev
open Go.RowKit Go.ChangeShapes Go.WideShapes Go.Deep
variable {P : Program}
/-- What is known of a cell: itself, if it is plain. -/
def absV (v : Value) : Value := if Ev.flat v = true then v else gone
def absA (Z : Nat → Value) (n : Nat) : Array Value := ⟨(List.range n).map fun j => absV (Z j)⟩
theorem absA_size (Z : Nat → Value) (n : Nat) : (absA Z n).size = n := by simp [absA]
theorem absA_get (Z : Nat → Value) (n j : Nat) (h : j < (absA Z n).size) : (absA Z n)[j] = absV (Z j) := by simp [absA]
theorem absV_plain (v : Value) : plainV (absV v) = true := by
  unfold absV plainV
  split
  · rename_i h; rw [h]; rfl
  · rfl
theorem absA_plain (Z : Nat → Value) (n : Nat) : (absA Z n).toList.all plainV = true := by
  rw [List.all_eq_true]
  intro v hv
  simp only [absA, List.mem_map] at hv
  obtain ⟨j, _, rfl⟩ := hv
  exact absV_plain _
/-- The row of a slice: 'k' cells an element. -/
structure AnyRow (W : World) (k : Nat) (Z : Nat → Value) (l : Loc) (a : Addr) (len cap : Nat) : Prop where
  hcap : len ≤ cap
  has : RowHas W { cells := absA Z (len * k), esz := k, st := 0, prev := [] } l
  at' : a = ⟨l.blk, l.shift, none⟩
  room : l.room = l.shift + cap * k
  pos : 0 < k
theorem AnyRow.rel {W : World} {k : Nat} {Z : Nat → Value} {l : Loc} {a : Addr} {len cap : Nat} (h : AnyRow W k Z l a len cap) {ls : List Loc} {i n : Nat} (hi : ls[i]? = some l) (hn : P.globals.size + i < n) :
    VRel n (rhoRows P.globals.size ls) (.slice (some ⟨P.globals.size + i, 0, none⟩) len 0) (.slice (some a) len cap) := by
  have hρ : rhoRows P.globals.size ls (P.globals.size + i) = l := by
    unfold rhoRows
    rw [if_neg (by omega), show P.globals.size + i - P.globals.size = i by omega, hi]; rfl
  have he : a = (rhoRows P.globals.size ls).addr ⟨P.globals.size + i, 0, none⟩ := by
    rw [h.at']; unfold Rho.addr; simp only [hρ, Nat.add_zero]
  have hs : l.size = len * k := by rw [h.has.size]; exact absA_size _ _
  have hesz : l.esz = k := h.has.esz
  have hm : len * k ≤ cap * k := Nat.mul_le_mul_right _ h.hcap
  rw [he]
  exact .slice ⟨hn, by rw [hρ]; exact h.has.bad⟩ (by rw [hρ, hesz]; exact h.pos) (by rw [hρ, hesz, hs]; omega) (by rw [hρ, hesz, hs]; omega) (by rw [hρ, hesz, h.room]; omega) h.hcap
section
variable {H : Type} {enc : TypeId × Value → H}
theorem row_any {W : World} {b0 : Nat} {t e : TypeId} {v : Value} {d : DataW H} {p : List MemPlace} (ht : P.underlying t = some (.slice e)) (hk : 0 < P.cellsOf e)
    (hsc : ∀ (n : Nat) (cs : List Value) (x : DataW H × List MemPlace), DataW.trod enc P W 0 (fun _ => true) true n e cs = some x → ∀ c ∈ cs, scalar c = true)
    (hval : Value.okWide P W .any b0 t v) (hd : DataW.Trod enc P W 0 (fun _ => true) true t v d p) :
    v = .slice none 0 0 ∨ ∃ (a : Addr) (len cap : Nat) (Z : Nat → Value) (l : Loc), v = .slice (some a) len cap ∧ AnyRow W (P.cellsOf e) Z l a len cap ∧
      ∀ i, i < len → ∃ n x, DataW.trod enc P W 0 (fun _ => true) true n e ((List.range (P.cellsOf e)).map fun j => Z (i * P.cellsOf e + j)) = some x := by
  obtain ⟨a0, len, cap, rfl⟩ := okWide_slice ht hval
  obtain ⟨fuel, hf⟩ := hd
  have hcs : (Value.slice a0 len cap).cells.toList = [.slice a0 len cap] := by simp [Value.cells]
  rw [hcs] at hf
  rcases open_slice ht hf with ⟨h1, _⟩ | ⟨a, len', cap', m, n, D, Pl, h1, _, hl, hm, hmm, _, hx⟩
  · simp only [List.cons.injEq, and_true] at h1
    exact .inl h1
  · simp only [List.cons.injEq, Value.slice.injEq, and_true] at h1
    obtain ⟨rfl, rfl, rfl⟩ := h1
    right
    obtain ⟨_, ha, hblk⟩ := okWide_row ht hval
    simp only [if_true] at hmm
    have hml : len ≤ m := by omega
    -- the cells, one after the other
    have cellAt : ∀ i j, i < len → j < P.cellsOf e → ∃ c, W.cell? ⟨a.block, a.off + (i * P.cellsOf e + j), none⟩ = some c ∧ scalar c = true := by
      intro i j hi hj
      obtain ⟨cs', c1, c2⟩ := hx i (by omega)
      obtain ⟨_, q2, q3⟩ := World.cells?_some c1
      have hlt : j < cs'.length := by omega
      have := q3 j hj
      rw [List.getElem?_eq_getElem hlt, ha, add_plain] at this
      refine ⟨cs'[j], ?_, hsc _ _ _ c2 _ (List.getElem_mem hlt)⟩
      have e2 : (⟨a.block, a.off + i * P.cellsOf e, none⟩ : Addr).add j = ⟨a.block, a.off + (i * P.cellsOf e + j), none⟩ := by rw [add_plain]; simp [Nat.add_assoc]
      rw [e2] at this
      exact this
    have flatAt : ∀ q, q < len * P.cellsOf e → ∃ c, W.cell? ⟨a.block, a.off + q, none⟩ = some c ∧ scalar c = true := by
      intro q hq
      have h1 : q / P.cellsOf e < len := (Nat.div_lt_iff_lt_mul hk).2 hq
      have h2 := Nat.mod_lt q hk
      have h3 : q / P.cellsOf e * P.cellsOf e + q % P.cellsOf e = q := Nat.div_add_mod' q _
      have := cellAt _ _ h1 h2
      rw [h3] at this
      exact this
    refine ⟨a, len, cap, fun q => (W.cell? ⟨a.block, a.off + q, none⟩).getD undef, ⟨a.block, a.off, len * P.cellsOf e, P.cellsOf e, a.off + cap * P.cellsOf e, false⟩, rfl, ⟨hl, ⟨rfl, (absA_size _ _).symm, rfl, rfl, hblk, fun j hj => ?_⟩, ha, rfl, hk⟩, fun i hi => ?_⟩
    · have hj' : j < len * P.cellsOf e := by rw [← absA_size (fun q => (W.cell? ⟨a.block, a.off + q, none⟩).getD undef) (len * P.cellsOf e)]; exact hj
      obtain ⟨c, c1, c2⟩ := flatAt j hj'
      refine ⟨c, c1, ?_⟩
      have : (absA (fun q => (W.cell? ⟨a.block, a.off + q, none⟩).getD undef) (len * P.cellsOf e))[j] = absV c := by
        rw [absA_get, c1]; rfl
      show scalar (absA _ _)[j] = true ∧ _
      rw [this]
      unfold absV
      by_cases hf : Ev.flat c = true
      · rw [if_pos hf]; exact ⟨c2, .inl ⟨hf, rfl⟩⟩
      · rw [if_neg hf]; exact ⟨rfl, .inr ⟨rfl, c2⟩⟩
    · obtain ⟨cs', c1, c2⟩ := hx i (by omega)
      obtain ⟨_, q2, q3⟩ := World.cells?_some c1
      refine ⟨n, (D i, Pl i), ?_⟩
      have : ((List.range (P.cellsOf e)).map fun j => ((W.cell? ⟨a.block, a.off + (i * P.cellsOf e + j), none⟩).getD undef)) = cs' := by
        apply List.ext_getElem?
        intro j
        rw [List.getElem?_map]
        by_cases hj : j < P.cellsOf e
        · rw [List.getElem?_range hj]
          have := q3 j hj
          rw [ha, add_plain, add_plain] at this
          simp only [Option.map_some]
          rw [List.getElem?_eq_getElem (by omega)] at this ⊢
          rw [show a.off + (i * P.cellsOf e + j) = a.off + i * P.cellsOf e + j by omega, this]; rfl
        · rw [List.getElem?_eq_none (by simp; omega), List.getElem?_eq_none (by omega)]; rfl
      rw [this]; exact c2
end
end Go.Ev
