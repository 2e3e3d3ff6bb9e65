/- The faster run: operations over objects. -/
import Derived.Test.YtmnnnickodfibaaEvQ4
namespace Go.Ev
open Go.RowKit
variable {P : Program} {cs : CallFn} {cf : FCall}

theorem asSome_ptr (a : Option Addr) : asSome (.pointer a) = some (.pointer a) := rfl
theorem spec_load1 {o : Oper} {ty : TypeId} {x : Operand} (ho : o.op = .load ty x) {i : TypeInfo} (ha : isAggT P ty = some false) (hi : P.info? ty = some i) {t : Tr} {h : HT} {n low : Nat} {k : FK} {r : FR}
    (hr : coreH (.load1 (cOpd P x)) P cf cs t h n low k = r) (hb : r ≠ .bad) : Res P cs o t h n low k r := by
  obtain ⟨v, h1, h2⟩ := opdK_spec (x := x) (k := fun v => ptrVK v (fun b off => ifK (Nat.blt b n) (objK h b fun cs _ st _ _ _ => ifK (Nat.blt st 3) (cellK cs off fun v => k v h n low))) .bad) hr hb
  obtain ⟨b, off, rfl, h3⟩ := ptrVK_spec h1 hb
  obtain ⟨h4, h5⟩ := ifK_spec h3 hb
  rw [objK_eq] at h5
  obtain ⟨h6, h7⟩ := ifK_spec h5 hb
  obtain ⟨u, h8, h9⟩ := cellK_spec h7 hb
  have hb' : b < n := Nat.le_of_ble_eq_true h4
  have hs' : (htG (pth b) h).st < 3 := Nat.le_of_ble_eq_true h6
  refine ⟨u, h, n, low, ?_, h9⟩
  simp only [evOp, ho, with1, h2 _ rfl, evLoad, toS_live hb' hs', ha, hi]
  have hlt : off < (htG (pth b) h).cells.toList.length := (List.getElem?_eq_some_iff.1 h8).1
  rw [readCells_closed rfl (by have := hlt; simp at this; omega)]
  have : (exQ (htG (pth b) h).cells off 1).toList = [u] := by
    rw [exQ_list, List.drop_eq_getElem_cons hlt]
    have := (List.getElem?_eq_some_iff.1 h8).2
    simp [this]
  simp only [this]
theorem spec_loadN {o : Oper} {ty : TypeId} {x : Operand} (ho : o.op = .load ty x) {i : TypeInfo} (ha : isAggT P ty = some true) (hi : P.info? ty = some i) {t : Tr} {h : HT} {n low : Nat} {k : FK} {r : FR}
    (hr : coreH (.loadN i.size (cOpd P x)) P cf cs t h n low k = r) (hb : r ≠ .bad) : Res P cs o t h n low k r := by
  obtain ⟨v, h1, h2⟩ := opdK_spec (x := x) (k := fun v => ptrVK v (fun b off => ifK (Nat.blt b n) (objK h b fun cs _ st _ _ _ => ifK (Nat.blt st 3) (dropK cs off fun cs => takeK cs i.size fun cs => k (.agg ⟨cs⟩) h n low))) .bad) hr hb
  obtain ⟨b, off, rfl, h3⟩ := ptrVK_spec h1 hb
  obtain ⟨h4, h5⟩ := ifK_spec h3 hb
  rw [objK_eq] at h5
  obtain ⟨h6, h7⟩ := ifK_spec h5 hb
  obtain ⟨h8, h9⟩ := dropK_spec h7 hb
  obtain ⟨h10, h11⟩ := takeK_spec h9 hb
  have hb' : b < n := Nat.le_of_ble_eq_true h4
  have hs' : (htG (pth b) h).st < 3 := Nat.le_of_ble_eq_true h6
  refine ⟨_, h, n, low, ?_, h11⟩
  simp only [evOp, ho, with1, h2 _ rfl, evLoad, toS_live hb' hs', ha, hi]
  rw [readCells_closed rfl (by simp at h8 h10; omega)]
  rfl

/-! Writing. -/
noncomputable def killH : List Nat → HT → HT
  | [], h => h
  | b :: r, h => killH r (htPut (pth b) h { (htG (pth b) h) with st := 3 })
theorem killK_eq : ∀ (prev : List Nat) (h : HT) (k : HT → FR), killK prev h k = k (killH prev h)
  | [], _, _ => rfl
  | b :: r, h, k => by
    show objK h b (fun cs esz _ prev sym ver => htP (pth b) h { cells := ⟨cs⟩, esz, st := 3, prev, sym, ver } fun h => killK r h k) = _
    rw [objK_eq, htP_eq, killK_eq r]; rfl
theorem killL_eq : ∀ (prev : List Nat) (h : HT) (n : Nat), killL ⟨arrL h n⟩ prev = ⟨arrL (killH prev h) n⟩
  | [], _, _ => rfl
  | b :: r, h, n => by
    simp only [killL, killH]
    rw [← killL_eq r]
    congr 1
    apply Array.ext'
    rw [Array.toList_modify]
    apply List.ext_getElem?
    intro i
    rw [List.getElem?_modify]
    simp only [arrL_get, htG_put]
    by_cases h1 : i < n
    · rw [if_pos h1, if_pos h1]
      by_cases h2 : b = i
      · subst h2; simp
      · rw [if_neg (fun e => h2 e.symm)]; simp [h2]
    · rw [if_neg h1, if_neg h1]; simp
theorem storeR_spec {b off : Nat} {vs : List Value} {h : HT} {n low : Nat} {k : FK} {r : FR} (hr : storeR b off vs h n low k = r) (hb : r ≠ .bad) :
    ∃ h' low', storeCellsAt (toS h n low) b off vs = some (toS h' n low') ∧ k undef h' n low' = r := by
  obtain ⟨h1, h2⟩ := ifK_spec hr hb
  rw [objK_eq] at h2
  obtain ⟨h3, h4⟩ := ifK_spec h2 hb
  obtain ⟨h5, h6⟩ := ifK_spec h4 hb
  obtain ⟨h7, h8⟩ := putsK_spec h6 hb
  rw [litK_eq, killK_eq, htP_eq] at h8
  have hb' : b < n := Nat.le_of_ble_eq_true h1
  have hs' : (htG (pth b) h).st = 1 := Nat.eq_of_beq_eq_true h3
  rw [allQ_eq, show scalarQ = scalar from funext scalarQ_eq] at h5
  have hcell : (⟨(htG (pth b) h).cells.toList.take off ++ (vs ++ (htG (pth b) h).cells.toList.drop (off + vs.length))⟩ : Array Value) = putCells (htG (pth b) h).cells off vs := by
    apply Array.ext'
    rw [putCells_list _ _ _ (by simpa using h7)]
  have hobj : ({ cells := ⟨(htG (pth b) h).cells.toList.take off ++ (vs ++ (htG (pth b) h).cells.toList.drop (off + vs.length))⟩, esz := (htG (pth b) h).esz, st := 1, prev := [], sym := (htG (pth b) h).sym, ver := Nat.succ (htG (pth b) h).ver } : AObj) = { (htG (pth b) h) with cells := putCells (htG (pth b) h).cells off vs, prev := [], ver := (htG (pth b) h).ver + 1 } := by
    rw [hcell]
    generalize htG (pth b) h = ob at hs' ⊢
    obtain ⟨c, e, st, p, sy, ve⟩ := ob
    simp only at hs'
    subst hs'; rfl
  rw [hobj] at h8
  have hset : ∀ lw, (⟨setQ (killL (toS h n low).heap (htG (pth b) h).prev) b { (htG (pth b) h) with cells := putCells (htG (pth b) h).cells off vs, prev := [], ver := (htG (pth b) h).ver + 1 }, lw, none, []⟩ : St) = toS (htPut (pth b) (killH (htG (pth b) h).prev h) { (htG (pth b) h) with cells := putCells (htG (pth b) h).cells off vs, prev := [], ver := (htG (pth b) h).ver + 1 }) n lw := by
    intro lw
    show (⟨setQ (killL ⟨arrL h n⟩ _) b _, lw, none, []⟩ : St) = _
    rw [killL_eq]
    have := toS_set (killH (htG (pth b) h).prev h) n lw b { (htG (pth b) h) with cells := putCells (htG (pth b) h).cells off vs, prev := [], ver := (htG (pth b) h).ver + 1 } hb'
    show (⟨setQ (toS (killH (htG (pth b) h).prev h) n lw).heap b _, lw, none, []⟩ : St) = _
    rw [this]; rfl
  have hneed : need (toS h n low) (decide (off + vs.length ≤ (htG (pth b) h).cells.size)) = some (toS h n low) := by
    rw [decide_eq_true (by simpa using h7)]; rfl
  have hst : storeCellsAt (toS h n low) b off vs = some ⟨setQ (killL (toS h n low).heap (htG (pth b) h).prev) b { (htG (pth b) h) with cells := putCells (htG (pth b) h).cells off vs, prev := [], ver := (htG (pth b) h).ver + 1 }, if flatL vs then low else min low b, none, []⟩ := by
    unfold storeCellsAt
    rw [toS_own hb' hs']
    simp only [h5, if_true, hneed]
    rfl
  rw [hst]
  cases hf : allQ flatQ vs with
  | true =>
    rw [hf] at h8
    rw [allQ_flat] at hf
    rw [hf, if_pos rfl, hset]
    exact ⟨_, _, rfl, h8⟩
  | false =>
    rw [hf] at h8
    rw [allQ_flat] at hf
    rw [hf, if_neg (by simp), hset]
    exact ⟨_, _, rfl, h8⟩
theorem spec_store1 {o : Oper} {ty : TypeId} {x y : Operand} (ho : o.op = .store ty x y) {i : TypeInfo} (hi : P.info? ty = some i) (hs : i.size = 1) {t : Tr} {h : HT} {n low : Nat} {k : FK} {r : FR}
    (hr : coreH (.store1 (cOpd P x) (cOpd P y)) P cf cs t h n low k = r) (hb : r ≠ .bad) : Res P cs o t h n low k r := by
  obtain ⟨v, h1, h2⟩ := opdK_spec (x := x) hr hb
  obtain ⟨u, h3, h4⟩ := opdK_spec (x := y) h1 hb
  obtain ⟨b, off, rfl, h5⟩ := ptrVK_spec h3 hb
  obtain ⟨h6, h7⟩ := valK_spec h5 hb
  obtain ⟨h8, h9⟩ := ifK_spec h7 hb
  obtain ⟨h', low', q1, q2⟩ := storeR_spec h9 hb
  rw [scalarQ_eq] at h8
  have hc : u.cells = #[u] := by cases u <;> first | rfl | cases h8
  refine ⟨undef, h', n, low', ?_, q2⟩
  simp only [evOp, ho, with2, h2 _ rfl, h4 _ h6, evStore, hi, hs, hc]
  rw [if_pos (by rfl)]
  simp only [q1]
theorem spec_storeN {o : Oper} {ty : TypeId} {x y : Operand} (ho : o.op = .store ty x y) {i : TypeInfo} (hi : P.info? ty = some i) {t : Tr} {h : HT} {n low : Nat} {k : FK} {r : FR}
    (hr : coreH (.storeN i.size (cOpd P x) (cOpd P y)) P cf cs t h n low k = r) (hb : r ≠ .bad) : Res P cs o t h n low k r := by
  obtain ⟨v, h1, h2⟩ := opdK_spec (x := x) hr hb
  obtain ⟨u, h3, h4⟩ := opdK_spec (x := y) h1 hb
  obtain ⟨b, off, rfl, h5⟩ := ptrVK_spec h3 hb
  obtain ⟨l, rfl, h6⟩ := aggVK_spec h5 hb
  rw [lenK_eq] at h6
  obtain ⟨h7, h8⟩ := ifK_spec h6 hb
  obtain ⟨h', low', q1, q2⟩ := storeR_spec h8 hb
  have hl : l.length = i.size := Nat.eq_of_beq_eq_true h7
  refine ⟨undef, h', n, low', ?_, q2⟩
  have hsz : (Value.agg { toList := l }).cells.size = i.size := hl
  simp only [evOp, ho, with2, h2 _ rfl, h4 _ rfl, evStore, hi]
  rw [if_pos hsz]
  show (match storeCellsAt (toS h n low) b off l with | some s => some (undef, s) | none => none) = _
  rw [q1]
theorem spec_faddr {o : Oper} {ty : TypeId} {x : Operand} {f : Nat} (ho : o.op = .fieldAddr ty x f) {fields : Array Field} {fd : Field} {i : TypeInfo} (hu : P.underlying ty = some (.struct fields)) (hf : fields[f]? = some fd) (hi : P.info? fd.type = some i) (hz : ¬ i.size = 0)
    {t : Tr} {h : HT} {n low : Nat} {k : FK} {r : FR} (hr : coreH (.faddr fd.offset (cOpd P x)) P cf cs t h n low k = r) (hb : r ≠ .bad) : Res P cs o t h n low k r := by
  obtain ⟨v, h1, h2⟩ := opdK_spec (x := x) hr hb
  obtain ⟨b, off, rfl, h3⟩ := ptrVK_spec h1 hb
  rw [litK_eq] at h3
  refine ⟨_, h, n, low, ?_, h3⟩
  simp only [evOp, ho, with1, h2 _ rfl, evFieldAddr, hu, hf, hi, if_neg hz]
  rfl
theorem idxK_spec {i : Int} {len : Nat} {k : Nat → FR} {r : FR} (h : idxK i len k = r) (hb : r ≠ .bad) : ∃ m : Nat, i = .ofNat m ∧ m < len ∧ k m = r := by
  cases i with
  | ofNat m =>
    obtain ⟨h1, h2⟩ := ifK_spec (b := Nat.ble (Nat.succ m) len) h hb
    exact ⟨m, rfl, Nat.le_of_ble_eq_true h1, h2⟩
  | negSucc m => exact absurd h.symm hb
theorem need_idx {s : St} (hs : s.path = none) {m len : Nat} (h : m < len) : need s (decide (0 ≤ (Int.ofNat m) ∧ (Int.ofNat m) < (len : Int))) = some s := by
  rw [decide_eq_true (by simp only [Int.ofNat_eq_natCast]; omega)]; exact need_true hs
theorem spec_iaddrS {o : Oper} {ty : TypeId} {x y : Operand} (ho : o.op = .indexAddr ty x y) {elem : TypeId} {e : TypeInfo} (hu : P.underlying ty = some (.slice elem)) (he : P.info? elem = some e)
    {t : Tr} {h : HT} {n low : Nat} {k : FK} {r : FR} (hr : coreH (.iaddrS e.size (cOpd P x) (cOpd P y) o) P cf cs t h n low k = r) (hb : r ≠ .bad) : Res P cs o t h n low k r := by
  obtain ⟨v, h1, h2⟩ := opdK_spec (x := x) hr hb
  obtain ⟨u, h3, h4⟩ := opdK_spec (x := y) h1 hb
  obtain ⟨kd, i, rfl, h5⟩ := intVK_spec h3 hb
  rcases sliceVK_spec h5 hb with ⟨b, off, len, cap, rfl, h6⟩ | ⟨len, cap, rfl, h6⟩
  · obtain ⟨m, rfl, h7, h8⟩ := idxK_spec h6 hb
    rw [litK_eq] at h8
    refine ⟨_, h, n, low, ?_, h8⟩
    simp only [evOp, ho, with2, h2 _ rfl, h4 _ rfl, evIndexAddr, hu, he, need_idx (toS_path h n low) h7]
    rfl
  · exact absurd h6.symm hb
theorem spec_iaddrA {o : Oper} {ty : TypeId} {x y : Operand} (ho : o.op = .indexAddr ty x y) {len : Nat} {elem : TypeId} {e : TypeInfo} (hu : P.underlying ty = some (.array len elem)) (he : P.info? elem = some e)
    {t : Tr} {h : HT} {n low : Nat} {k : FK} {r : FR} (hr : coreH (.iaddrA e.size len (cOpd P x) (cOpd P y) o) P cf cs t h n low k = r) (hb : r ≠ .bad) : Res P cs o t h n low k r := by
  obtain ⟨v, h1, h2⟩ := opdK_spec (x := x) hr hb
  obtain ⟨u, h3, h4⟩ := opdK_spec (x := y) h1 hb
  obtain ⟨kd, i, rfl, h5⟩ := intVK_spec h3 hb
  obtain ⟨b, off, rfl, h6⟩ := ptrVK_spec h5 hb
  obtain ⟨m, rfl, h7, h8⟩ := idxK_spec h6 hb
  rw [litK_eq] at h8
  refine ⟨_, h, n, low, ?_, h8⟩
  simp only [evOp, ho, with2, h2 _ rfl, h4 _ rfl, evIndexAddr, hu, he, need_idx (toS_path h n low) h7]
  rfl
theorem spec_field1 {o : Oper} {ty : TypeId} {x : Operand} {f : Nat} (ho : o.op = .field ty x f) {fields : Array Field} {fd : Field} {i : TypeInfo} (hu : P.underlying ty = some (.struct fields)) (hf : fields[f]? = some fd) (hi : P.info? fd.type = some i) (ha : isAggT P fd.type = some false)
    {t : Tr} {h : HT} {n low : Nat} {k : FK} {r : FR} (hr : coreH (.field1 fd.offset (cOpd P x)) P cf cs t h n low k = r) (hb : r ≠ .bad) : Res P cs o t h n low k r := by
  obtain ⟨v, h1, h2⟩ := opdK_spec (x := x) hr hb
  obtain ⟨l, rfl, h3⟩ := aggVK_spec h1 hb
  obtain ⟨u, h4, h5⟩ := cellK_spec h3 hb
  refine ⟨u, h, n, low, ?_, h5⟩
  simp only [evOp, ho, with1, h2 _ rfl, evField, hu, hf, hi, ha, List.getElem?_toArray, h4]
theorem spec_fieldN {o : Oper} {ty : TypeId} {x : Operand} {f : Nat} (ho : o.op = .field ty x f) {fields : Array Field} {fd : Field} {i : TypeInfo} (hu : P.underlying ty = some (.struct fields)) (hf : fields[f]? = some fd) (hi : P.info? fd.type = some i) (ha : isAggT P fd.type = some true)
    {t : Tr} {h : HT} {n low : Nat} {k : FK} {r : FR} (hr : coreH (.fieldN fd.offset i.size (cOpd P x)) P cf cs t h n low k = r) (hb : r ≠ .bad) : Res P cs o t h n low k r := by
  obtain ⟨v, h1, h2⟩ := opdK_spec (x := x) hr hb
  obtain ⟨l, rfl, h3⟩ := aggVK_spec h1 hb
  obtain ⟨h4, h5⟩ := dropK_spec h3 hb
  obtain ⟨h6, h7⟩ := takeK_spec h5 hb
  refine ⟨_, h, n, low, ?_, h7⟩
  simp only [evOp, ho, with1, h2 _ rfl, evField, hu, hf, hi, ha]
  congr 3
  apply Array.ext'
  simp [List.extract_eq_take_drop]
theorem spec_extr {o : Oper} {x : Operand} {i : Nat} (ho : o.op = .extract x i) {t : Tr} {h : HT} {n low : Nat} {k : FK} {r : FR} (hr : coreH (.extr i (cOpd P x)) P cf cs t h n low k = r) (hb : r ≠ .bad) : Res P cs o t h n low k r := by
  obtain ⟨v, h1, h2⟩ := opdK_spec (x := x) hr hb
  obtain ⟨l, rfl, h3⟩ := tupVK_spec h1 hb
  obtain ⟨u, h4, h5⟩ := cellK_spec h3 hb
  refine ⟨u, h, n, low, ?_, h5⟩
  simp only [evOp, ho, evExtract, h2 _ rfl, List.getElem?_toArray, h4]
theorem spec_nilc {o : Oper} {x : Operand} (ho : o.op = .nilCheck x) {t : Tr} {h : HT} {n low : Nat} {k : FK} {r : FR} (hr : coreH (.nilc (cOpd P x)) P cf cs t h n low k = r) (hb : r ≠ .bad) : Res P cs o t h n low k r := by
  obtain ⟨v, h1, h2⟩ := opdK_spec (x := x) hr hb
  obtain ⟨h3, h4⟩ := valK_spec h1 hb
  cases v with
  | pointer a => cases a with
    | none => exact absurd h4.symm hb
    | some a =>
      refine ⟨_, h, n, low, ?_, h4⟩
      simp only [evOp, ho, evNilCheck, h2 _ rfl]
  | _ => exact absurd h4.symm hb
theorem spec_mov {o : Oper} {x : Operand} (ho : o.op = .move x ∨ o.op = .assign x) {t : Tr} {h : HT} {n low : Nat} {k : FK} {r : FR} (hr : coreH (.mov (cOpd P x)) P cf cs t h n low k = r) (hb : r ≠ .bad) : Res P cs o t h n low k r := by
  obtain ⟨v, h1, h2⟩ := opdK_spec (x := x) hr hb
  obtain ⟨h3, h4⟩ := valK_spec h1 hb
  refine ⟨_, h, n, low, ?_, h4⟩
  rcases ho with ho | ho <;> simp only [evOp, ho, evMove, h2 _ h3]
theorem spec_pick {o : Oper} {c a b : Operand} (ho : o.op = .pick c a b) {t : Tr} {h : HT} {n low : Nat} {k : FK} {r : FR} (hr : coreH (.pick (cOpd P c) (cOpd P a) (cOpd P b)) P cf cs t h n low k = r) (hb : r ≠ .bad) : Res P cs o t h n low k r := by
  obtain ⟨v, h1, h2⟩ := opdK_spec (x := c) hr hb
  rcases boolVK_spec h1 hb with ⟨rfl, h3⟩ | ⟨rfl, h3⟩
  · obtain ⟨u, h4, h5⟩ := opdK_spec (x := a) h3 hb
    obtain ⟨h6, h7⟩ := valK_spec h4 hb
    refine ⟨_, h, n, low, ?_, h7⟩
    simp only [evOp, ho, evPick, h2 _ rfl, test_closed (toS_path h n low), evMove, h5 _ h6]
  · obtain ⟨u, h4, h5⟩ := opdK_spec (x := b) h3 hb
    obtain ⟨h6, h7⟩ := valK_spec h4 hb
    refine ⟨_, h, n, low, ?_, h7⟩
    simp only [evOp, ho, evPick, h2 _ rfl, test_closed (toS_path h n low), evMove, h5 _ h6]
theorem spec_int2 {o : Oper} {op : BinOp} {ty ty' : TypeId} {x y : Operand} (ho : o.op = .binOp op ty x y ty') {g : IOp} (hg : iop op = some g) {t : Tr} {h : HT} {n low : Nat} {k : FK} {r : FR}
    (hr : coreH (.int2 g (isShift op) (cOpd P x) (cOpd P y) o) P cf cs t h n low k = r) (hb : r ≠ .bad) : Res P cs o t h n low k r := by
  have hl := heapless_binOp (P := P) ho
  obtain ⟨v, h1, h2⟩ := opdK_spec (x := x) hr hb
  obtain ⟨u, h3, h4⟩ := opdK_spec (x := y) h1 hb
  rcases intVK_cases v (fun kd a => intVK u (fun kd' b =>
    Bool.rec (motive := fun _ => FR) (flatR P o t fun v => k v h n low) (g kd a b (fun v => k v h n low) (flatR P o t fun v => k v h n low)) (isShift op || Nat.beq (ikQ kd) (ikQ kd')))
    (flatR P o t fun v => k v h n low)) (flatR P o t fun v => k v h n low) with ⟨kd, a, rfl, h5⟩ | h5
  · rw [h5] at h3
    rcases intVK_cases u (fun kd' b =>
      Bool.rec (motive := fun _ => FR) (flatR P o t fun v => k v h n low) (g kd a b (fun v => k v h n low) (flatR P o t fun v => k v h n low)) (isShift op || Nat.beq (ikQ kd) (ikQ kd')))
      (flatR P o t fun v => k v h n low) with ⟨kd', b, rfl, h6⟩ | h6
    · rw [h6] at h3
      cases hk : (isShift op || Nat.beq (ikQ kd) (ikQ kd')) with
      | false => rw [hk] at h3; exact flatR_spec hl h3 hb
      | true =>
        rw [hk] at h3
        have hk' : isShift op = true ∨ kd = kd' := by
          rcases Bool.or_eq_true _ _ ▸ hk with h | h
          · exact .inl h
          · exact .inr (ikQ_inj h)
        rcases iop_ok hg kd kd' a b (fun v => k v h n low) (flatR P o t fun v => k v h n low) hk' with h7 | ⟨z, h7, h8⟩
        · have h3 : g kd a b (fun v => k v h n low) (flatR P o t fun v => k v h n low) = r := h3
          rw [h7] at h3
          exact flatR_spec hl h3 hb
        · have h3 : g kd a b (fun v => k v h n low) (flatR P o t fun v => k v h n low) = r := h3
          rw [h8] at h3
          refine ⟨z, h, n, low, ?_, h3⟩
          simp only [evOp, ho, evBin, h2 _ rfl, h4 _ rfl, evBinInt, h7 _ (toS_path h n low)]
          exact named_closed rfl _
    · rw [h6] at h3; exact flatR_spec hl h3 hb
  · rw [h5] at h3; exact flatR_spec hl h3 hb
theorem spec_conv {o : Oper} {src dst : TypeId} {x : Operand} (ho : o.op = .convert src dst x) {d : TypeDesc} (hsrc : P.underlying src = some d) {kd : IntKind} (hdst : P.underlying dst = some (.int kd)) {t : Tr} {h : HT} {n low : Nat} {k : FK} {r : FR}
    (hr : coreH (.conv kd (cOpd P x) o) P cf cs t h n low k = r) (hb : r ≠ .bad) : Res P cs o t h n low k r := by
  have hty := conv_types (P := P) (src := src) (dst := dst) (by rw [hdst]; simp) (by rw [hdst]; simp)
  have hl := heapless_convert (P := P) ho hty.1 hty.2
  obtain ⟨v, h1, h2⟩ := opdK_spec (x := x) hr hb
  rcases intVK_cases v (fun _ a => Int.rec (motive := fun _ => FR) (fun m => natIn kd m fun v => k v h n low) (fun m => intIn kd (.negSucc m) fun v => k v h n low) a) (flatR P o t fun v => k v h n low) with ⟨kd0, a, rfl, h5⟩ | h5
  · rw [h5] at h1
    have h1 : k (.int kd (wrapF kd a)) h n low = r := by
      cases a with
      | ofNat m =>
        have h1 : natIn kd m (fun v => k v h n low) = r := h1
        rw [natIn_eq] at h1; exact h1
      | negSucc m =>
        have h1 : intIn kd (.negSucc m) (fun v => k v h n low) = r := h1
        rw [intIn_eq] at h1; exact h1
    refine ⟨_, h, n, low, ?_, h1⟩
    simp only [evOp, ho, evConv, h2 _ rfl, evConvInt, hsrc, hdst, named_closed (toS_path h n low)]
  · rw [h5] at h1; exact flatR_spec hl h1 hb
theorem spec_lenS {o : Oper} {c : Call} {x : Operand} (ho : o.op = .call c) (hc : c.callee = .builtin .len) (ha : c.args.toList = [x]) {ty elem : TypeId} (ht : c.argTypes[0]? = some ty) (hu : P.underlying ty = some (.slice elem)) {t : Tr} {h : HT} {n low : Nat} {k : FK} {r : FR}
    (hr : coreH (.lenS (cOpd P x) o) P cf cs t h n low k = r) (hb : r ≠ .bad) : Res P cs o t h n low k r := by
  obtain ⟨v, h1, h2⟩ := opdK_spec (x := x) hr hb
  rcases sliceVK_spec h1 hb with ⟨b, off, len, cap, rfl, h6⟩ | ⟨len, cap, rfl, h6⟩
  · refine ⟨_, h, n, low, ?_, h6⟩
    simp only [evOp, ho, evCallAny, hc, isMinMax, evCallOp, ha, opndsL, h2 _ rfl, evLen, ht, hu, force_eq]
    rfl
  · refine ⟨_, h, n, low, ?_, h6⟩
    simp only [evOp, ho, evCallAny, hc, isMinMax, evCallOp, ha, opndsL, h2 _ rfl, evLen, ht, hu, force_eq]
    rfl
theorem spec_call0 {o : Oper} {c : Call} {f : FuncId} {t : Tr} {s : St} {l : List Value} (ho : o.op = .call c) (hc : c.callee = .value (.func f)) (h1 : opndsL P t c.args.toList = some l) : evOp P cs o t s = cs f ⟨l⟩ s := by
  simp only [evOp, ho, evCallAny, hc, isMinMax, evCallOp, opnd, h1]
  have e : ((#[] : Array Value).toList ++ l ++ (#[] : Array Value).toList).toArray = ⟨l⟩ := by simp
  show cs f _ s = _
  rw [e]
theorem spec_call {o : Oper} {c : Call} {f : FuncId} (ho : o.op = .call c) (hc : c.callee = .value (.func f)) (hcf : CFOk cf cs) {t : Tr} {h : HT} {n low : Nat} {k : FK} {r : FR}
    (hr : coreH (.call f (c.args.toList.map (cOpd P))) P cf cs t h n low k = r) (hb : r ≠ .bad) : Res P cs o t h n low k r := by
  obtain ⟨l, h1, h2⟩ := opdsK_spec hr hb
  obtain ⟨v, h', n', low', h3, h4⟩ := hcf _ _ _ _ _ _ _ h2 hb
  refine ⟨v, h', n', low', ?_, h4⟩
  rw [spec_call0 ho hc h1]; exact h3
theorem spec_callV {o : Oper} {c : Call} {x : Operand} (ho : o.op = .call c) (hc : c.callee = .value x) (hcf : CFOk cf cs) {t : Tr} {h : HT} {n low : Nat} {k : FK} {r : FR}
    (hr : coreH (.callV (cOpd P x) (c.args.toList.map (cOpd P))) P cf cs t h n low k = r) (hb : r ≠ .bad) : Res P cs o t h n low k r := by
  obtain ⟨v, h1, h2⟩ := opdK_spec (x := x) hr hb
  obtain ⟨l, h3, h4⟩ := opdsK_spec h1 hb
  obtain ⟨f, a, b, rfl, h5⟩ := fnVK_spec h4 hb
  obtain ⟨v, h', n', low', h6, h7⟩ := hcf _ _ _ _ _ _ _ h5 hb
  refine ⟨v, h', n', low', ?_, h7⟩
  simp only [evOp, ho, evCallAny, hc, isMinMax, evCallOp, h2 _ rfl, h3]
  exact h6
def SumsOk (l : List (FuncId × PFun)) (cs : CallFn) : Prop := ∀ (f : FuncId) (g : PFun), lookF l f = some g → ∀ args s, cs f args s = pureCall g args s
theorem spec_sum {L : List (FuncId × PFun)} {o : Oper} {c : Call} {f : FuncId} {g : PFun} (ho : o.op = .call c) (hc : c.callee = .value (.func f)) (hg : lookF L f = some g) (hsum : SumsOk L cs) {t : Tr} {h : HT} {n low : Nat} {k : FK} {r : FR}
    (hr : coreH (.sum g (c.args.toList.map (cOpd P))) P cf cs t h n low k = r) (hb : r ≠ .bad) : Res P cs o t h n low k r := by
  obtain ⟨l, h1, h2⟩ := opdsK_spec hr hb
  split at h2
  case h_2 => exact absurd h2.symm hb
  rename_i p v hp
  obtain ⟨h3, h4⟩ := ifK_spec h2 hb
  rw [allQ_flat] at h3
  have hop : evOp P cs o t (toS h n low) = pureCall g ⟨l⟩ (toS h n low) := by
    rw [spec_call0 ho hc h1]; exact hsum f g hg _ _
  have key : ∀ q, askP (toS h n low) p = some (toS h n low) → valK v (fun v => k v h n low) = q → q = r → Res P cs o t h n low k r := by
    intro q hask hv hq
    subst hq
    obtain ⟨_, h6⟩ := valK_spec hv hb
    refine ⟨v, h, n, low, ?_, h6⟩
    rw [hop]
    unfold pureCall
    simp only [hp, h3, if_true, hask]
    exact force_eq (toS h n low) v (fun v => some (v, toS h n low))
  split at h4
  · exact key _ rfl h4 rfl
  · obtain ⟨h5, h6⟩ := ifK_spec h4 hb
    subst h5
    exact key _ rfl h6 rfl
end Go.Ev
