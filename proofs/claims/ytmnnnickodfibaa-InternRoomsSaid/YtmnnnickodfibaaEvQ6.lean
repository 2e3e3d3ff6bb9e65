/- The faster run: append, slices; all operations. -/
import Derived.Test.YtmnnnickodfibaaEvQ5
namespace Go.Ev
open Go.RowKit
variable {P : Program} {cs : CallFn} {cf : FCall}

theorem not_true {b : Bool} (h : (!b) = true) : b = false := by cases b <;> simp_all
theorem tailR_spec {esz : Nat} {y : Value} {h : HT} {n low : Nat} {k : Nat → List Value → FR} {d r : FR} (hr : tailR esz y h n k d = r) (hb : r ≠ .bad) :
    d = r ∨ ∃ m new, asSome y = some y ∧ (∀ z, y ≠ .int .i64 z) ∧ evTail P esz y (toS h n low) = some (m, ⟨new⟩, false, toS h n low) ∧ k m new = r := by
  unfold tailR at hr
  rcases sliceVK_cases y (fun b off len _ => ifK (Nat.blt b n) (objK h b fun cs es st _ sym _ => ifK (!sym) (ifK (Nat.blt st 3) (ifK (Nat.beq es esz) (dropK cs off fun cs => takeK cs (Nat.mul len esz) fun cs => k len cs)))))
    (fun len cap => ifK (Nat.beq len 0) (ifK (Nat.ble cap 1) (k 0 []))) d with ⟨b, off, len, cap, rfl, h2⟩ | ⟨len, cap, rfl, h2⟩ | h2
  · rw [h2] at hr
    obtain ⟨h3, h4⟩ := ifK_spec hr hb
    rw [objK_eq] at h4
    obtain ⟨h5, h6⟩ := ifK_spec h4 hb
    obtain ⟨h7, h8⟩ := ifK_spec h6 hb
    obtain ⟨h9, h10⟩ := ifK_spec h8 hb
    obtain ⟨h11, h12⟩ := dropK_spec h10 hb
    obtain ⟨h13, h14⟩ := takeK_spec h12 hb
    refine .inr ⟨len, _, rfl, by simp, ?_, h14⟩
    have hb' : b < n := Nat.le_of_ble_eq_true h3
    have hs' : (htG (pth b) h).st < 3 := Nat.le_of_ble_eq_true h7
    simp only [List.length_drop, Array.length_toList] at h11 h13
    have h13 : len * esz ≤ (htG (pth b) h).cells.size - off := h13
    have hneed : need (toS h n low) (decide (off + len * esz ≤ (htG (pth b) h).cells.size)) = some (toS h n low) := by
      rw [decide_eq_true (by omega)]; rfl
    unfold evTail
    simp only [toS_live hb' hs', Nat.eq_of_beq_eq_true h9, if_true, hneed, not_true h5]
    rfl
  · rw [h2] at hr
    obtain ⟨h3, h4⟩ := ifK_spec hr hb
    obtain ⟨h5, h6⟩ := ifK_spec h4 hb
    obtain rfl := Nat.eq_of_beq_eq_true h3
    have h5 := Nat.le_of_ble_eq_true h5
    refine .inr ⟨0, [], rfl, by simp, ?_, h6⟩
    rcases (show cap = 0 ∨ cap = 1 by omega) with rfl | rfl <;> rfl
  · rw [h2] at hr; exact .inl hr
theorem need_le {s : St} (hs : s.path = none) {a b : Nat} (h : Nat.ble a b = true) : need s (decide (a ≤ b)) = some s := by
  rw [decide_eq_true (Nat.le_of_ble_eq_true h)]; exact need_true hs
theorem spec_app {o : Oper} {c : Call} {x y : Operand} (ho : o.op = .call c) (hc : c.callee = .builtin .append) (ha : c.args.toList = [x, y]) {sT yT elem : TypeId} {yd : TypeDesc} {e : TypeInfo} {z : Value} (hsT : c.argTypes[0]? = some sT) (hyT : c.argTypes[1]? = some yT)
    (hu : P.underlying sT = some (.slice elem)) (hyd : P.underlying yT = some yd) (hk : isRow yd = true) (he : P.info? elem = some e) (hz : e.zero = some z) (hz2 : 0 < e.size ∧ z.cells.size = e.size ∧ e.bytes ≤ 65536)
    {t : Tr} {h : HT} {n low : Nat} {k : FK} {r : FR} (hr : coreH (.app e.size (cOpd P x) (cOpd P y) o) P cf cs t h n low k = r) (hb : r ≠ .bad) : Res P cs o t h n low k r := by
  obtain ⟨v, h1, h2⟩ := opdK_spec (x := x) hr hb
  obtain ⟨u, h3, h4⟩ := opdK_spec (x := y) h1 hb
  unfold appR at h3
  rcases tailR_spec (P := P) (low := low) h3 hb with h5 | ⟨m, new, h5, hni, h6, h7⟩
  · exact slowR_spec h5 hb
  have hyd2 : (∃ e', yd = .slice e') ∨ yd = .string := by
    cases yd <;> first | exact .inl ⟨_, rfl⟩ | exact .inr rfl | cases hk
  have hop : ∀ v', asSome v' = some v' → (v = v') → evOp P cs o t (toS h n low) = evAppend P c.argTypes v' u (toS h n low) := by
    intro v' hv' e'
    subst e'
    simp only [evOp, ho, evCallAny, hc, isMinMax, evCallOp, ha, opndsL, h2 _ hv', h4 _ h5]
    unfold evAppendA
    cases u with
    | int kd z => cases kd <;> first | rfl | exact absurd rfl (hni z)
    | _ => rfl
  have hunf : ∀ v', evAppend P c.argTypes v' u (toS h n low) = match v' with
            | .slice none 0 0 =>
              match test (toS h n low) (m == 0) with
              | some (true, s) => some (.slice none 0 0, s)
              | some (false, s) => match need s (decide (m ≤ 1073741824)) with
                | some s => some (.slice (some ⟨lenQ s.heap, 0, none⟩) m 0, s.new ⟨new⟩ e.size false)
                | none => none
              | none => none
            | .slice none 0 1 =>
              match test (toS h n low) (m == 0) with
              | some (true, s) => some (.slice none 0 1, s)
              | some (false, s) => match need s (decide (m ≤ 1073741824)) with
                | some s => some (.slice (some ⟨lenQ s.heap, 0, none⟩) m 0, s.new ⟨new⟩ e.size false)
                | none => none
              | none => none
            | .slice (some ⟨b, off, none⟩) len _ =>
              match own (toS h n low) b with
              | some o =>
                if o.esz = e.size then
                  match test (toS h n low) (m == 0) with
                  | some (true, s) => some (v', s)
                  | some (false, s) =>
                    match test s (off + len * e.size == o.cells.size) with
                    | some (true, s) =>
                      match need s (decide (len + m ≤ 1073741824)) with
                      | some s =>
                        some (.slice (some ⟨lenQ s.heap, 0, none⟩) (len + m) 0,
                          { s with heap := pushQ (setQ s.heap b { o with st := 2, prev := [] }) { cells := apQ (exQ o.cells off (len * e.size)) ⟨new⟩, esz := e.size, st := 1, prev := b :: o.prev, sym := o.sym || false } })
                      | none => none
                    | some (false, s) =>
                      match need s (decide (off + (len + m) * e.size ≤ o.cells.size)) with
                      | some s => match storeCellsAt s b (off + len * e.size) (⟨new⟩ : Array Value).toList with
                        | some s => some (.slice (some ⟨b, off, none⟩) (len + m) 0, s)
                        | none => none
                      | none => none
                    | none => none
                  | none => none
                else none
              | none => none
            | _ => none := by
    intro v'
    conv => lhs; unfold evAppend
    rcases hyd2 with ⟨e', rfl⟩ | rfl
    · simp only [hsT, hyT, hu, hyd, he, hz]
      rw [if_pos hz2, h6]
      rfl
    · simp only [hsT, hyT, hu, hyd, he, hz]
      rw [if_pos hz2, h6]
      rfl
  rcases sliceVK_spec h7 hb with ⟨b, off, len, cap, rfl, h8⟩ | ⟨len, cap, rfl, h8⟩
  · obtain ⟨h9, h10⟩ := ifK_spec h8 hb
    rw [objK_eq] at h10
    obtain ⟨h11, h12⟩ := ifK_spec h10 hb
    obtain ⟨h13, h14⟩ := ifK_spec h12 hb
    have hb' : b < n := Nat.le_of_ble_eq_true h9
    have hs' := Nat.eq_of_beq_eq_true h11
    have hes := Nat.eq_of_beq_eq_true h13
    have hopv := hop _ rfl rfl
    rw [hunf] at hopv
    simp only [toS_own hb' hs', if_pos hes, test_closed (toS_path h n low)] at hopv
    cases m with
    | zero => exact ⟨_, h, n, low, hopv, h14⟩
    | succ m =>
      have h14 : lenK (htG (pth b) h).cells.toList (fun size => Bool.rec (motive := fun _ => FR) (slowR P cs o t h n low k) (ifK (Nat.ble (Nat.add len (m + 1)) 1073741824) (dropK (htG (pth b) h).cells.toList off fun cs1 => appK cs1 new fun cs1 =>
        htP (pth b) h { cells := ⟨(htG (pth b) h).cells.toList⟩, esz := (htG (pth b) h).esz, st := 2, prev := [], sym := (htG (pth b) h).sym, ver := (htG (pth b) h).ver } fun h' => htP (pth n) h' { cells := ⟨cs1⟩, esz := e.size, st := 1, prev := b :: (htG (pth b) h).prev, sym := (htG (pth b) h).sym } fun h' =>
          litK (Nat.add len (m + 1)) fun len => litK (Nat.succ n) fun n1 => k (.slice (some ⟨n, 0, none⟩) len 0) h' n1 low)) (Nat.beq (Nat.add off (Nat.mul len e.size)) size)) = r := h14
      rw [lenK_eq] at h14
      cases hq : Nat.beq (Nat.add off (Nat.mul len e.size)) (htG (pth b) h).cells.toList.length with
      | false => rw [hq] at h14; exact slowR_spec h14 hb
      | true =>
        rw [hq] at h14
        obtain ⟨h15, h16⟩ := ifK_spec h14 hb
        obtain ⟨h17, h18⟩ := dropK_spec h16 hb
        rw [appK_eq, htP_eq, htP_eq, litK_eq, litK_eq] at h18
        have hq' : off + len * e.size = (htG (pth b) h).cells.size := by
          have := Nat.eq_of_beq_eq_true hq
          simpa using this
        have t1 : ((m + 1) == 0) = false := rfl
        have t2 : (off + len * e.size == (htG (pth b) h).cells.size) = true := by rw [hq']; simp
        have t3 : need (toS h n low) (decide (len + (m + 1) ≤ 1073741824)) = some (toS h n low) := need_le rfl h15
        simp only [t1, t2, t3, test_closed (toS_path h n low)] at hopv
        refine ⟨_, _, _, _, ?_, h18⟩
        rw [hopv, toS_len]
        congr 2
        have e1 : (apQ (exQ (htG (pth b) h).cells off (len * e.size)) ⟨new⟩ : Array Value) = ⟨List.drop off (htG (pth b) h).cells.toList ++ new⟩ := by
          unfold apQ
          rw [exQ_list, List.take_of_length_le (by simp; omega)]
        have e2 : ({ (htG (pth b) h) with st := 2, prev := [] } : AObj) = { cells := ⟨(htG (pth b) h).cells.toList⟩, esz := (htG (pth b) h).esz, st := 2, prev := [], sym := (htG (pth b) h).sym, ver := (htG (pth b) h).ver } := rfl
        rw [e1, e2, toS_set _ _ _ _ _ hb', Bool.or_false]
        unfold toS
        simp only [St.mk.injEq, and_true]
        rw [pushQ_eq, arrL_push]
        apply Array.ext'; simp
  · obtain ⟨h9, h10⟩ := ifK_spec h8 hb
    obtain ⟨h11, h12⟩ := ifK_spec h10 hb
    obtain rfl := Nat.eq_of_beq_eq_true h9
    have h11 := Nat.le_of_ble_eq_true h11
    have fin : ∀ w, evOp P cs o t (toS h n low) = (match test (toS h n low) (m == 0) with
              | some (true, s) => some (w, s)
              | some (false, s) => match need s (decide (m ≤ 1073741824)) with
                | some s => some (.slice (some ⟨lenQ s.heap, 0, none⟩) m 0, s.new ⟨new⟩ e.size false)
                | none => none
              | none => none) → (Nat.rec (motive := fun _ => FR) (k w h n low) (fun _ _ => ifK (Nat.ble m 1073741824)
      (htP (pth n) h { cells := ⟨new⟩, esz := e.size, st := 1, prev := [] } fun h => litK (Nat.succ n) fun n1 => k (.slice (some ⟨n, 0, none⟩) m 0) h n1 low)) m : FR) = r → Res P cs o t h n low k r := by
      intro w hw h12
      rw [test_closed (toS_path h n low)] at hw
      cases m with
      | zero => exact ⟨_, h, n, low, hw, h12⟩
      | succ m =>
        obtain ⟨h15, h16⟩ := ifK_spec h12 hb
        rw [htP_eq, litK_eq] at h16
        have t1 : ((m + 1) == 0) = false := rfl
        have t3 : need (toS h n low) (decide ((m + 1) ≤ 1073741824)) = some (toS h n low) := need_le rfl h15
        simp only [t1, t3] at hw
        refine ⟨_, _, _, _, ?_, h16⟩
        rw [hw, toS_len]
        congr 2
        unfold St.new
        rw [toS_push]; rfl
    rcases (show cap = 0 ∨ cap = 1 by omega) with rfl | rfl
    · exact fin _ (by rw [hop _ rfl rfl, hunf]; rfl) h12
    · exact fin _ (by rw [hop _ rfl rfl, hunf]; rfl) h12
def hiOf (len cap : Nat) (hi : Option Value) (s : St) : Option (Nat × St) := match hi with
    | none => some (len, s)
    | some (.int _ h) => match need s (decide (0 ≤ h ∧ h ≤ (cap : Int))) with
      | some s => some (h.toNat, s)
      | none => none
    | some _ => none
def loOf (h : Nat) (lo : Option Value) (s : St) : Option (Nat × Nat × St) := match lo with
    | none => some (0, h, s)
    | some (.int _ l) => match need s (decide (0 ≤ l ∧ l ≤ (h : Int))) with
      | some s => some (l.toNat, h, s)
      | none => none
    | some _ => none
theorem evBounds_eq (len cap : Nat) (lo hi : Option Value) (s : St) : evBounds len cap lo hi s = match hiOf len cap hi s with
    | some (h, s) => loOf h lo s
    | none => none := by
  unfold evBounds hiOf loOf
  rcases hi with _ | hi
  · rcases lo with _ | lo
    · rfl
    · cases lo <;> rfl
  · cases hi <;> (rcases lo with _ | lo <;> first | rfl | (cases lo <;> rfl))
theorem hiK_spec {hi : Option Operand} {t : Tr} {len cap : Nat} {k : Nat → FR} {r : FR} (hr : hiK (hi.map (cOpd P)) t len cap k = r) (hb : r ≠ .bad) :
    ∃ (m : Nat) (v : Option Value), opndO P t hi = some v ∧ k m = r ∧ ∀ s : St, s.path = none → hiOf len cap v s = some (m, s) := by
  cases hi with
  | none => exact ⟨len, none, rfl, hr, fun s _ => rfl⟩
  | some x =>
    obtain ⟨v, h1, h2⟩ := opdK_spec (x := x) (k := fun v => intVK v (fun _ z => Int.rec (motive := fun _ => FR) (fun m => ifK (Nat.ble m cap) (k m)) (fun _ => .bad) z) .bad) hr hb
    obtain ⟨kd, z, rfl, h3⟩ := intVK_spec h1 hb
    cases z with
    | ofNat m =>
      obtain ⟨h4, h5⟩ := ifK_spec (b := Nat.ble m cap) h3 hb
      have h4 := Nat.le_of_ble_eq_true h4
      refine ⟨m, some (.int kd (.ofNat m)), by show (match opnd P t x with | some v => if flat v then some (some v) else none | none => none) = _; rw [h2 _ rfl]; rfl, h5, fun s hs => ?_⟩
      have : decide (0 ≤ Int.ofNat m ∧ Int.ofNat m ≤ (cap : Int)) = true := decide_eq_true (by simp only [Int.ofNat_eq_natCast]; omega)
      simp only [hiOf, loOf, this, need_true hs]; rfl
    | negSucc m => exact absurd h3.symm hb
theorem loK_spec {lo : Option Operand} {t : Tr} {hi : Nat} {k : Nat → FR} {r : FR} (hr : loK (lo.map (cOpd P)) t hi k = r) (hb : r ≠ .bad) :
    ∃ (m : Nat) (v : Option Value), opndO P t lo = some v ∧ k m = r ∧ ∀ s : St, s.path = none → loOf hi v s = some (m, hi, s) := by
  cases lo with
  | none => exact ⟨0, none, rfl, hr, fun s _ => rfl⟩
  | some x =>
    obtain ⟨v, h1, h2⟩ := opdK_spec (x := x) (k := fun v => intVK v (fun _ z => Int.rec (motive := fun _ => FR) (fun m => ifK (Nat.ble m hi) (k m)) (fun _ => .bad) z) .bad) hr hb
    obtain ⟨kd, z, rfl, h3⟩ := intVK_spec h1 hb
    cases z with
    | ofNat m =>
      obtain ⟨h4, h5⟩ := ifK_spec (b := Nat.ble m hi) h3 hb
      have h4 := Nat.le_of_ble_eq_true h4
      refine ⟨m, some (.int kd (.ofNat m)), by show (match opnd P t x with | some v => if flat v then some (some v) else none | none => none) = _; rw [h2 _ rfl]; rfl, h5, fun s hs => ?_⟩
      have : decide (0 ≤ Int.ofNat m ∧ Int.ofNat m ≤ (hi : Int)) = true := decide_eq_true (by simp only [Int.ofNat_eq_natCast]; omega)
      simp only [hiOf, loOf, this, need_true hs]; rfl
    | negSucc m => exact absurd h3.symm hb
theorem spec_sliceS {o : Oper} {ty : TypeId} {x : Operand} {lo hi : Option Operand} (ho : o.op = .slice ty x lo hi none) {elem : TypeId} {e : TypeInfo} (hu : P.underlying ty = some (.slice elem)) (he : P.info? elem = some e) (hz : Nat.beq e.size 0 = false)
    {t : Tr} {h : HT} {n low : Nat} {k : FK} {r : FR} (hr : coreH (.sliceS e.size (cOpd P x) (lo.map (cOpd P)) (hi.map (cOpd P)) o) P cf cs t h n low k = r) (hb : r ≠ .bad) : Res P cs o t h n low k r := by
  obtain ⟨v, h1, h2⟩ := opdK_spec (x := x) hr hb
  rcases sliceVK_spec h1 hb with ⟨b, off, len, cap, rfl, h3⟩ | ⟨len, cap, rfl, h3⟩
  · obtain ⟨h4, h5⟩ := ifK_spec h3 hb
    rw [objK_eq] at h5
    obtain ⟨h6, h7⟩ := ifK_spec h5 hb
    obtain ⟨h8, h9⟩ := ifK_spec h7 hb
    rw [lenK_eq] at h9
    obtain ⟨mh, vh, h10, h11, h12⟩ := hiK_spec h9 hb
    obtain ⟨ml, vl, h13, h14, h15⟩ := loK_spec h11 hb
    rw [litK_eq, litK_eq] at h14
    have hb' : b < n := Nat.le_of_ble_eq_true h4
    have hs' : (htG (pth b) h).st < 3 := Nat.le_of_ble_eq_true h6
    have hes := Nat.eq_of_beq_eq_true h8
    have hpos : 0 < e.size := Nat.pos_of_ne_zero (Nat.ne_of_beq_eq_false hz)
    refine ⟨_, h, n, low, ?_, h14⟩
    have hno : opndO P t none = some none := rfl
    have hany : ∀ w l h' s, evSliceAny P ty w l h' s = evSlice P ty w l h' none s := by
      intro w l h' s; unfold evSliceAny; rw [hu]; cases l <;> rfl
    simp only [evOp, ho, evSliceOp, h2 _ rfl, h10, h13, hno, hany, evSlice, hu, he, toS_live hb' hs']
    rw [if_pos ⟨hes.symm, hpos⟩]
    have hbd : evBounds len (((htG (pth b) h).cells.size - off) / e.size) vl vh (toS h n low) = some (ml, mh, toS h n low) := by
      rw [evBounds_eq]
      have q := h12 (toS h n low) rfl
      simp only [Array.length_toList] at q
      have q2 := h15 (toS h n low) rfl
      rw [show ((htG (pth b) h).cells.size - off) / e.size = Nat.div (Nat.sub (htG (pth b) h).cells.size off) e.size from rfl]
      rw [q]
      exact q2
    rw [hbd]
    rfl
  · exact slowR_spec h3 hb

theorem spec_sliceA {o : Oper} {ty : TypeId} {x hi : Operand} (ho : o.op = .slice ty x none (some hi) none) {len : Nat} {elem : TypeId} {e : TypeInfo} (hu : P.underlying ty = some (.array len elem)) (he : P.info? elem = some e) (hz : Nat.beq e.size 0 = false)
    {t : Tr} {h : HT} {n low : Nat} {k : FK} {r : FR} (hr : coreH (.sliceA len e.size (cOpd P x) (cOpd P hi)) P cf cs t h n low k = r) (hb : r ≠ .bad) : Res P cs o t h n low k r := by
  obtain ⟨v, h1, h2⟩ := opdK_spec (x := x) hr hb
  obtain ⟨u, h3, h4⟩ := opdK_spec (x := hi) h1 hb
  obtain ⟨b, off, rfl, h5⟩ := ptrVK_spec h3 hb
  obtain ⟨kd, z, rfl, h6⟩ := intVK_spec h5 hb
  cases z with
  | negSucc m => exact absurd h6.symm hb
  | ofNat m =>
    obtain ⟨h7, h8⟩ := ifK_spec (b := Nat.ble m len) h6 hb
    obtain ⟨h9, h10⟩ := ifK_spec h8 hb
    rw [objK_eq] at h10
    obtain ⟨h11, h12⟩ := ifK_spec h10 hb
    obtain ⟨h13, h14⟩ := dropK_spec h12 hb
    obtain ⟨h15, h16⟩ := takeK_spec h14 hb
    rw [htP_eq, htP_eq, litK_eq] at h16
    have hb' : b < n := Nat.le_of_ble_eq_true h9
    have hs' := Nat.eq_of_beq_eq_true h11
    have hle := Nat.le_of_ble_eq_true h7
    have hpos : 0 < e.size := Nat.pos_of_ne_zero (Nat.ne_of_beq_eq_false hz)
    simp only [List.length_drop, Array.length_toList] at h13 h15
    have h15 : len * e.size ≤ (htG (pth b) h).cells.size - off := h15
    have hneed : need (toS h n low) (decide (0 ≤ Int.ofNat m ∧ Int.ofNat m ≤ (len : Int) ∧ 0 < e.size ∧ off + len * e.size ≤ (htG (pth b) h).cells.size)) = some (toS h n low) := by
      rw [decide_eq_true (by simp only [Int.ofNat_eq_natCast]; omega)]; rfl
    refine ⟨_, _, _, _, ?_, h16⟩
    have hbo : opndO P t (some hi) = some (some (.int kd (.ofNat m))) := by
      show (match opnd P t hi with | some v => if flat v then some (some v) else none | none => none) = _
      rw [h4 _ rfl]; rfl
    have hno : opndO P t none = some none := rfl
    simp only [evOp, ho, evSliceOp, h2 _ rfl, hbo, hno, evSliceAny, hu, evSliceArr, he, toS_own hb' hs', hneed]
    rw [toS_len, toS_set _ _ _ _ _ hb']
    congr 2
    unfold toS
    simp only [St.mk.injEq, and_true]
    rw [pushQ_eq]
    have e1 : ({ cells := exQ (htG (pth b) h).cells off (len * e.size), esz := e.size, st := 0, prev := [], sym := (htG (pth b) h).sym } : AObj) = { cells := ⟨List.take (Nat.mul len e.size) (List.drop off (htG (pth b) h).cells.toList)⟩, esz := e.size, st := 0, prev := [], sym := (htG (pth b) h).sym } := rfl
    rw [e1, arrL_push]
    apply Array.ext'; simp
/-- Every operation. -/
theorem core_spec {L : List (FuncId × PFun)} (hcf : CFOk cf cs) (hsum : SumsOk L cs) (o : Oper) {t : Tr} {h : HT} {n low : Nat} {k : FK} {r : FR} (hr : coreH (cCore P L o) P cf cs t h n low k = r) (hb : r ≠ .bad) : Res P cs o t h n low k r := by
  unfold cCore at hr
  split at hr
  · rename_i x ho; exact spec_mov (.inl ho) hr hb
  · rename_i x ho; exact spec_mov (.inr ho) hr hb
  · rename_i c a b ho; exact spec_pick ho hr hb
  · rename_i ty ho; exact freshR_spec (fresh_alloc ho) hr hb
  · rename_i ty x ho; exact freshR_spec (fresh_box ho) hr hb
  · rename_i ty ps ho; exact flatR_spec (heapless_build ho) hr hb
  · rename_i ty len ps ho; exact freshR_spec (fresh_buildSlice ho) hr hb
  · rename_i ty l c ho; exact freshR_spec (fresh_makeSlice ho) hr hb
  · rename_i ty a ho
    unfold cLoad at hr
    split at hr
    · rename_i i ha hi; exact spec_loadN ho ha hi hr hb
    · rename_i i ha hi; exact spec_load1 ho ha hi hr hb
    · exact slowR_spec hr hb
  · rename_i ty a v ho
    unfold cStore at hr
    split at hr
    · rename_i i hi
      by_cases hs : i.size = 1
      · simp only [hs, if_true, Option.getD_some] at hr; exact spec_store1 ho hi hs hr hb
      · simp only [hs, if_false, Option.getD_some] at hr; exact spec_storeN ho hi hr hb
    · exact slowR_spec hr hb
  · rename_i x ho; exact spec_nilc ho hr hb
  · rename_i op ty x y ty' ho
    split at hr
    · rename_i g hg; exact spec_int2 ho hg hr hb
    · exact flatR_spec (heapless_binOp ho) hr hb
  · rename_i op ty x ho; exact flatR_spec (heapless_unOp ho) hr hb
  · rename_i src dst x ho
    unfold cConv at hr
    split at hr
    · exact slowR_spec hr hb
    · rename_i e hsrc hdst; exact freshR_spec (fresh_strToBytes ho hsrc hdst) hr hb
    · rename_i hsrc hdst; exact spec_conv ho hsrc hdst hr hb
    · rename_i h1 h2 h3
      have hty := conv_types (P := P) (src := src) (dst := dst) (fun ⟨⟨e, he⟩, hd⟩ => h1 e he hd) (fun ⟨hs, e, hd⟩ => h2 e hs hd)
      exact flatR_spec (heapless_convert ho hty.1 hty.2) hr hb
  · rename_i fn a c ho; exact flatR_spec (heapless_makeFunc ho) hr hb
  · rename_i ty x f ho
    unfold cFaddr at hr
    split at hr
    · rename_i fields hu
      split at hr
      · rename_i fd hf
        split at hr
        · rename_i i hi
          split at hr
          · exact slowR_spec hr hb
          · rename_i hz; exact spec_faddr ho hu hf hi hz hr hb
        · exact slowR_spec hr hb
      · exact slowR_spec hr hb
    · exact slowR_spec hr hb
  · rename_i ty x f ho
    unfold cField at hr
    split at hr
    · rename_i fields hu
      split at hr
      · rename_i fd hf
        split at hr
        · rename_i i hi ha; exact spec_fieldN ho hu hf hi ha hr hb
        · rename_i i hi ha; exact spec_field1 ho hu hf hi ha hr hb
        · exact slowR_spec hr hb
      · exact slowR_spec hr hb
    · exact slowR_spec hr hb
  · rename_i ty x y ho
    unfold cIaddr at hr
    split at hr
    · rename_i elem hu
      split at hr
      · rename_i e he; exact spec_iaddrS ho hu he hr hb
      · exact slowR_spec hr hb
    · rename_i len elem hu
      split at hr
      · rename_i e he; exact spec_iaddrA ho hu he hr hb
      · exact slowR_spec hr hb
    · exact slowR_spec hr hb
  · rename_i ty x y ho; exact flatR_spec (heapless_index ho) hr hb
  · rename_i ty x lo hi ho
    unfold cSlice at hr
    split at hr
    · rename_i elem hu
      split at hr
      · rename_i e he
        cases hz : Nat.beq e.size 0 with
        | true => rw [hz] at hr; exact slowR_spec hr hb
        | false => rw [hz] at hr; exact spec_sliceS ho hu he hz hr hb
      · exact slowR_spec hr hb
    · rename_i len elem hu
      split at hr
      · rename_i e y he hlo hhi
        cases lo with
        | some _ => cases hlo
        | none =>
          cases hi with
          | none => cases hhi
          | some hi =>
            simp only [Option.map_some, Option.some.injEq] at hhi
            subst hhi
            cases hz : Nat.beq e.size 0 with
            | true => rw [hz] at hr; exact slowR_spec hr hb
            | false => rw [hz] at hr; exact spec_sliceA ho hu he hz hr hb
      · exact slowR_spec hr hb
    · exact slowR_spec hr hb
  · rename_i x i ho; exact spec_extr ho hr hb
  · rename_i c ho
    unfold cCall at hr
    split at hr
    · rename_i f hc
      split at hr
      · rename_i g hg; exact spec_sum ho hc hg hsum hr hb
      · exact spec_call ho hc hcf hr hb
    · rename_i hc; exact spec_callV ho hc hcf hr hb
    · rename_i hc
      split at hr
      · rename_i x ha
        unfold cLen at hr
        split at hr
        · rename_i ty ht
          split at hr
          · rename_i elem hu; exact spec_lenS ho hc ha ht hu hr hb
          · exact flatR_spec (heapless_len ho hc ha) hr hb
        · exact slowR_spec hr hb
      · exact slowR_spec hr hb
    · rename_i hc
      split at hr
      · rename_i x y ha
        unfold cApp at hr
        split at hr
        · rename_i sT yT hsT hyT
          split at hr
          · rename_i elem yd hu hyd
            split at hr
            · rename_i e hk he
              split at hr
              · rename_i z hz
                split at hr
                · rename_i hz2; exact spec_app ho hc ha hsT hyT hu hyd hk he hz hz2 hr hb
                · exact slowR_spec hr hb
              · exact slowR_spec hr hb
            · exact slowR_spec hr hb
          · exact slowR_spec hr hb
        · exact slowR_spec hr hb
      · exact slowR_spec hr hb
    · rename_i hc; exact flatR_spec (heapless_minMax ho (by rw [hc]; rfl)) hr hb
    · rename_i hc; exact flatR_spec (heapless_minMax ho (by rw [hc]; rfl)) hr hb
    · exact slowR_spec hr hb
  · exact slowR_spec hr hb
end Go.Ev
