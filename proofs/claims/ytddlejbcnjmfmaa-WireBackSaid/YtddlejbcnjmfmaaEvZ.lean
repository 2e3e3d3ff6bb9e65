/- ANY ARGUMENT READS BEHIND A CALL AS IT READ AHEAD OF IT, if the call turned nothing of what was there. -/
import Derived.Test.YtddlejbcnjmfmaaEvY
import Derived.Deep.Slices
namespace Go.Ev
open Go.RowKit Go.ChangeShapes Go.WideShapes
section
variable {H : Type} {enc : TypeId × Value → H} {P : Program} {w : World} {sp : Nat → Bool} {T : TypeId → Prop}
theorem all_of {α β : Type} {f g : α → Option β} {Q : β → Prop} {l : List α} (hfg : ∀ x ∈ l, ∀ y, f x = some y → Q y → g x = some y) {r : List β} (h : l.mapM f = some r) (hr : ∀ y ∈ r, Q y) : l.mapM g = some r :=
  mapM_carry h fun x y hx hy hv => hfg x hx y hv (hr y hy)
/-- One round: the spare is read where it was read, for the blocks that are met. -/
theorem step_spare {r r' : TypeId → List Value → Option (DataW H × List MemPlace)} (K : Kids P T) (hp : ∀ t e, T t → P.underlying t = some (.slice e) → 0 < P.cellsOf e)
    (hr : ∀ t cs x, T t → r t cs = some x → (∀ q ∈ x.2, sp q.block = true) → r' t cs = some x) {t : TypeId} {cs : List Value} {x : DataW H × List MemPlace} (ht : T t)
    (h : DataW.trodStep enc P w 0 (fun _ => true) true r t cs = some x) (hs : ∀ q ∈ x.2, sp q.block = true) : DataW.trodStep enc P w 0 sp true r' t cs = some x := by
  have deep : ∀ (a : Addr) (e : TypeId) (y : DataW H × List MemPlace), T e → (w.cells? 0 a (P.cellsOf e)).bind (r e) = some y → (∀ q ∈ y.2, sp q.block = true) → (w.cells? 0 a (P.cellsOf e)).bind (r' e) = some y := by
    intro a e y he hy hq
    obtain ⟨c, hc, hc'⟩ := Option.bind_eq_some_iff.1 hy
    exact Option.bind_eq_some_iff.2 ⟨c, hc, hr _ _ _ he hc' hq⟩
  unfold DataW.trodStep at h ⊢
  split at h
  case h_6 e a hu =>
    obtain ⟨y, hy, rfl⟩ := Option.map_eq_some_iff.1 h
    exact Option.map_eq_some_iff.2 ⟨y, deep _ _ _ (K.pointer ht hu) hy fun q hq => hs q (List.mem_append_right _ hq), rfl⟩
  case h_8 e a len cap hu =>
    simp only at h ⊢
    split at h
    case isFalse => cases h
    rename_i hc
    rw [if_pos hc]
    obtain ⟨elems, he, h2⟩ := Option.bind_eq_some_iff.1 h
    obtain ⟨rest, hrest, rfl⟩ := Option.map_eq_some_iff.1 h2
    rw [if_pos trivial] at hrest
    have sub : ∀ y ∈ elems ++ rest, ∀ q ∈ y.2, sp q.block = true := fun y hy q hq => hs q (List.mem_append_right _ (List.mem_flatMap.2 ⟨y, hy, hq⟩))
    refine Option.bind_eq_some_iff.2 ⟨elems, all_of (Q := fun y => ∀ q ∈ y.2, sp q.block = true) (fun i _ y hy hq => deep _ _ _ (K.slice ht hu) hy hq) he (fun y hy => sub y (List.mem_append_left _ hy)), Option.map_eq_some_iff.2 ⟨rest, ?_, rfl⟩⟩
    by_cases hz : elems.length + rest.length = 0
    · have : rest = [] := List.length_eq_zero_iff.1 (by omega)
      subst this
      split
      · exact all_of (Q := fun y => ∀ q ∈ y.2, sp q.block = true) (fun i _ y hy hq => deep _ _ _ (K.slice ht hu) hy hq) hrest (by simp)
      · rfl
    · have hb : sp a.block = true := by
        have hpos := hp t e ht hu
        have hm : 0 < (elems.length + rest.length) * P.cellsOf e := Nat.mul_pos (by omega) hpos
        exact hs _ (List.mem_append_left _ (MemPlace.mem_row.2 ⟨0, hm, rfl⟩))
      rw [if_pos hb]
      exact all_of (Q := fun y => ∀ q ∈ y.2, sp q.block = true) (fun i _ y hy hq => deep _ _ _ (K.slice ht hu) hy hq) hrest (fun y hy => sub y (List.mem_append_right _ hy))
  case h_9 fs hu =>
    split at h
    case isFalse => cases h
    rename_i hc
    rw [if_pos hc]
    obtain ⟨xs, hx, rfl⟩ := Option.map_eq_some_iff.1 h
    exact Option.map_eq_some_iff.2 ⟨xs, all_of (Q := fun y => ∀ q ∈ y.2, sp q.block = true) (fun f hf y hy hq => hr _ _ _ ((K.struct ht hu).1 f hf) hy hq) hx (fun y hy q hq => hs q (List.mem_flatMap.2 ⟨y, hy, hq⟩)), rfl⟩
  case h_10 nn e hu =>
    split at h
    case isFalse => cases h
    rename_i hc
    rw [if_pos hc]
    obtain ⟨xs, hx, rfl⟩ := Option.map_eq_some_iff.1 h
    exact Option.map_eq_some_iff.2 ⟨xs, all_of (Q := fun y => ∀ q ∈ y.2, sp q.block = true) (fun f _ y hy hq => hr _ _ _ (K.array ht hu).1 hy hq) hx (fun y hy q hq => hs q (List.mem_flatMap.2 ⟨y, hy, hq⟩)), rfl⟩
  case h_12 => exact h
  case h_14 k e b hu =>
    split at h
    case h_2 => cases h
    rename_i es clock hb
    split at h
    case isFalse => cases h
    rename_i hc
    obtain ⟨entries, he, hd⟩ := Option.bind_eq_some_iff.1 h
    simp only [if_pos hc]
    simp only at hd
    split at hd
    case isFalse => cases hd
    rename_i hris
    have hx := Option.some.inj hd
    subst hx
    refine Option.bind_eq_some_iff.2 ⟨entries, all_of (Q := fun y => ∀ q ∈ y.2, sp q.block = true) (fun z _ y hy hq => ?_) he (fun y hy q hq => hs q (List.mem_cons_of_mem _ (List.mem_flatMap.2 ⟨y, hy, hq⟩))), by simp [hris]⟩
    obtain ⟨key, hk, hz⟩ := Option.bind_eq_some_iff.1 hy
    refine Option.bind_eq_some_iff.2 ⟨key, hk, ?_⟩
    split at hz
    case isFalse => cases hz
    rename_i hf
    rw [if_pos hf]
    obtain ⟨u, hu', rfl⟩ := Option.map_eq_some_iff.1 hz
    exact Option.map_eq_some_iff.2 ⟨u, hr _ _ _ (K.map ht hu) hu' hq, rfl⟩
  all_goals first | exact h | (cases h; done)
theorem trod_spare (K : Kids P T) (hp : ∀ t e, T t → P.underlying t = some (.slice e) → 0 < P.cellsOf e) : ∀ (n : Nat) (t : TypeId) (cs : List Value) (x : DataW H × List MemPlace), T t →
    DataW.trod enc P w 0 (fun _ => true) true n t cs = some x → (∀ q ∈ x.2, sp q.block = true) → DataW.trod enc P w 0 sp true n t cs = some x := by
  intro n
  induction n with
  | zero => intro t cs x _ h; simp [DataW.trod] at h
  | succ n ih =>
    intro t cs x ht h hs
    rw [DataW.trod_step] at h ⊢
    exact step_spare K hp ih ht h hs
/-- Elements have cells: what 'trod_spare' asks, by a look at the types. -/
def elemsOk (P : Program) : Bool := laidOutB P && mapsRowed P && (List.range P.types.size).all fun t => match P.underlying t with
  | some (.slice e) => Nat.blt 0 (P.cellsOf e)
  | _ => true
/-- WHATEVER AN ARGUMENT IS: it reads behind the call as it read. -/
theorem shut_any (hp : elemsOk P = true) {W : World} {t : TypeId} {v : Value} {d : DataW H} {p : List MemPlace} (ht : t < P.types.size) (hd : DataW.Trod enc P W 0 (fun _ => true) true t v d p) :
    ∀ (W' : World) (sp : Nat → Bool), (∀ q ∈ p, sp q.block = true) → Below W.heap.size W W' → DataW.Trod enc P W' 0 sp true t v d p := by
  obtain ⟨n, hn⟩ := hd
  simp only [elemsOk, Bool.and_eq_true] at hp
  obtain ⟨⟨h1, h2⟩, h3⟩ := hp
  intro W' sp hsp hbel
  refine ⟨n, trod_spare (kids_rows h1 h2) (fun t e ht hu => ?_) n _ _ _ ht (DataW.trod_carry n _ _ _ hn fun q hq => hbel.same (DataW.trod_lt n _ _ _ hn q hq)) hsp⟩
  have := List.all_eq_true.1 h3 t (List.mem_range.2 ht)
  rw [hu] at this
  exact Nat.le_of_ble_eq_true this
end
end Go.Ev
