/- THE EVALUATOR: an operation, whichever it is; a region that draws nothing. -/
import Derived.Test.YtmnnnickodfibaaEvG2
namespace Go.Ev
open Go.RowKit
variable {P : Program} {B : Nat}

/-- What a call function answers is what the call does. -/
def CallSound (P : Program) (call : CallFn) : Prop :=
  ∀ (f : FuncId) (args : Array Value) (s : St) (v : Value) (s' : St), call f args s = some (v, s') → s'.Holds →
    ∀ (B : Nat) (ρ : Rho) (w : World) (args' : Array Value), HRel P B ρ s.heap w → LRel s.heap.size ρ args.toList args'.toList → OpGives P B ρ s w v s' ((callFunc f args').run P w)

theorem LRel.of_prel {n : Nat} {ρ : Rho} {a a' : Array Value} (h : PRel n ρ a a') : LRel n ρ a.toList a'.toList :=
  LRel.of_get (by simpa using h.1) fun i h1 h2 => by
    have := h.2 i (by simpa using h1) (by simpa using h2)
    simpa using this
theorem LRel.len {n : Nat} {ρ : Rho} {l l' : List Value} (h : LRel n ρ l l') : l.length = l'.length := by
  induction h with
  | nil => rfl
  | cons _ _ ih => simp [ih]
theorem LRel.append {n : Nat} {ρ : Rho} {l l' m m' : List Value} (h : LRel n ρ l l') (k : LRel n ρ m m') : LRel n ρ (l ++ m) (l' ++ m') := by
  induction h with
  | nil => exact k
  | cons hv _ ih => exact .cons hv ih

theorem zeroStr_size (n : Nat) : (zeroStr n).size = n := by show (List.replicate n (0 : UInt8)).toArray.size = n; simp
theorem zeroStr_cells (n : Nat) : ((zeroStr n).extract 0 n).data.map (fun b : UInt8 => Value.int .u8 b.toNat) = Builtin.zeroCells #[.int .u8 0] n := by
  apply Array.ext
  · simp [zeroStr, Builtin.zeroCells, ByteArray.size]
  · intro i h1 h2
    have : i % 1 = 0 := by omega
    simp [zeroStr, Builtin.zeroCells, this]
theorem zeroStr_cells1 (n : Nat) : ((zeroStr n).data.map (fun b : UInt8 => Value.int .u8 b.toNat)).extract 0 n = Builtin.zeroCells #[.int .u8 0] n := by
  rw [← zeroStr_cells n]; simp
theorem zeroStr_cells2 (n : Nat) : List.take n ((zeroStr n).data.toList.map (fun b : UInt8 => Value.int .u8 b.toNat)) = (Builtin.zeroCells #[.int .u8 0] n).toList := by
  rw [← zeroStr_cells1 n]; simp
theorem append_zero {argTypes : Array TypeId} {ty sT yT st elem : TypeId} {e : TypeInfo} {k : IntKind} {base : Option Addr} {len cap n : Nat} {w : World} (h0 : argTypes[0]? = some sT) (h1 : argTypes[1]? = some yT)
    (hs : P.underlying sT = some (.slice elem)) (hy : P.underlying yT = some (.int k)) (hst : P.underlying st = some .string) (he : P.info? elem = some e) (he1 : e.size = 1) (hb : e.bytes = 1) (hz : e.zero = some (.int .u8 0)) (hn : len + n ≤ 1073741824) :
    (Builtin.append_ argTypes ty #[.slice base len cap, .int .i64 (n : Int)]).run P w = (Builtin.append_ #[sT, st] ty #[.slice base len cap, .string (zeroStr n)]).run P w := by
  have hwrap : IntKind.i64.wrap (n : Int) = (n : Int) := by
    rw [← wrapF_eq]
    simp only [wrapF]
    have : ((n : Int) % 18446744073709551616) = (n : Int) := by omega
    rw [this]
    simp only [ge_iff_le]
    rw [if_neg (by omega)]
  have hneg : ¬ ((n : Int) < 0) := by omega
  have hbig : ¬ (281474976710656 < (n : Int)) := by omega
  have hcells := zeroStr_cells1 n
  have hcells2 := zeroStr_cells2 n
  have hz0 : Builtin.zeroCells #[.int .u8 0] 0 = #[] := by simp [Builtin.zeroCells]
  have h63 : ¬ (9223372036854775807 < ((len : Int) + (n : Int))) := by omega
  by_cases hroom : len + n ≤ cap
  · by_cases hn0 : n = 0
    · subst hn0
      have hw0 : IntKind.i64.wrap 0 = 0 := hwrap
      have hr0 : len ≤ cap := hroom
      simp [hr0, Builtin.append_, h0, h1, run_underlying hs, run_underlying hy, run_underlying hst, sizeOf, typeInfo, he, he1, hb, asInt, asIntOf, hw0, Builtin.lenOf, zeroStr_size, hroom, Builtin.firstCells, hcells, hcells2, hz0]
    · simp [Builtin.append_, h0, h1, run_underlying hs, run_underlying hy, run_underlying hst, sizeOf, typeInfo, he, he1, hb, asInt, asIntOf, hwrap, hneg, hbig, hn0, Builtin.lenOf, zeroStr_size, hroom, Builtin.firstCells, hcells, hcells2, zeroValue, hz, Value.cells]
  · have hfit : Builtin.nextslicecap (len + n) cap ≤ 281474976710656 := by
      have := growslice_fits (old := cap) (bytes := 1) (show cap < len + n by omega) (by omega)
      omega
    have hfit' : ¬ (281474976710656 < Builtin.nextslicecap (len + n) cap) := by omega
    by_cases hn0 : n = 0
    · subst hn0
      have hw0 : IntKind.i64.wrap 0 = 0 := hwrap
      have hr0 : ¬ len ≤ cap := hroom
      have h630 : ¬ (9223372036854775807 < (len : Int)) := by omega
      have hf0 : ¬ (281474976710656 < Builtin.nextslicecap len cap) := hfit'
      simp [hr0, h630, hf0, Builtin.append_, h0, h1, run_underlying hs, run_underlying hy, run_underlying hst, sizeOf, typeInfo, he, he1, hb, asInt, asIntOf, hw0, Builtin.lenOf, zeroStr_size, hroom, Builtin.firstCells, hcells, hcells2, hz0, zeroValue, hz, Value.cells, h63, hfit']
    · simp [Builtin.append_, h0, h1, run_underlying hs, run_underlying hy, run_underlying hst, sizeOf, typeInfo, he, he1, hb, asInt, asIntOf, hwrap, hneg, hbig, hn0, Builtin.lenOf, zeroStr_size, hroom, Builtin.firstCells, hcells, hcells2, zeroValue, hz, Value.cells, h63, hfit']
theorem evAppendA_spec {ρ : Rho} {s s' : St} {w : World} {argTypes : Array TypeId} {ty : TypeId} {x y x' y' v : Value} (h : evAppendA P argTypes x y s = some (v, s')) (hh : s'.Holds)
    (hr : HRel P B ρ s.heap w) (hx : VRel s.heap.size ρ x x') (hy : VRel s.heap.size ρ y y') :
    Gives P B ρ s w v s' ((Builtin.append_ argTypes ty #[x', y']).run P w) := by
  unfold evAppendA at h
  try simp only [lenQ_eq, pushQ_eq, setQ_eq] at h
  split at h
  · rename_i n
    obtain rfl := hy.eq_of_flat rfl
    split at h
    case h_2 => cases h
    rename_i sT yT st a0 len c0 h0 h1 hst
    split at h
    case h_2 => cases h
    rename_i elem k hs hyu
    split at h
    case h_2 => cases h
    rename_i e he
    split at h
    case h_2 => cases h
    rename_i z hz
    split at h
    case isFalse => cases h
    rename_i hc
    obtain ⟨c1, c2, c3, c4⟩ := hc
    have hzz : z = .int .u8 0 := by
      unfold isZeroU8 at c3
      split at c3
      · rfl
      · cases c3
    subst hzz
    have hstr : P.underlying st = some .string := by
      have := List.find?_some hst
      split at this
      · assumption
      · cases this
    obtain ⟨base, cap, rfl⟩ : ∃ base cap, x' = .slice base len cap := by
      cases hx with
      | any h _ => cases h
      | flat hf => exact ⟨_, _, rfl⟩
      | slice => exact ⟨_, _, rfl⟩
      | slice0 => exact ⟨_, _, rfl⟩
      | noRoom => exact ⟨_, _, rfl⟩
    have hrun := append_zero (P := P) (ty := ty) (base := base) (cap := cap) (w := w) h0 h1 hs hyu hstr he c1 c2 hz (Nat.le_of_ble_eq_true c4)
    have hi : (Value.int .i64 (Int.ofNat n)) = .int .i64 (n : Int) := rfl
    rw [hi, hrun]
    exact evAppend_spec (ty := ty) h hh hr hx (.flat rfl)
  · exact evAppend_spec (ty := ty) h hh hr hx hy
theorem evCallOp_spec {call : CallFn} (hcall : CallSound P call) {ρ : Rho} {s s' : St} {w : World} {c : Call} {ty : TypeId} {t : Tr} {a : Act} {v : Value}
    (h : evCallOp P call c t s = some (v, s')) (hh : s'.Holds) (hr : HRel P B ρ s.heap w) (ht : TRel s.heap.size ρ t a.tmps) :
    OpGives P B ρ s w v s' ((do let d ← resolve a.eval c ty; invoke d.target d.args : Sem Next).run P w) := by
  obtain ⟨callee, args, argTypes⟩ := c
  unfold evCallOp at h
  split at h
  · rename_i fo hc
    simp only at hc
    subst hc
    split at h
    case h_2 => cases h
    rename_i f first captured vs hf hvs
    have hfr := opnd_rel hf ht hr.glob
    obtain ⟨hl, _⟩ := opndsL_rel ht hr.glob _ _ hvs
    have key : ∀ first' captured' : Array Value, a.eval fo = .func (.func f) first' captured' → LRel s.heap.size ρ first.toList first'.toList → LRel s.heap.size ρ captured.toList captured'.toList →
        OpGives P B ρ s w v s' ((do let d ← resolve a.eval { callee := .value fo, args, argTypes } ty; invoke d.target d.args : Sem Next).run P w) := by
      intro first' captured' he h1 h2
      have := hcall f _ s v s' h hh B ρ w ((first' ++ args.map a.eval) ++ captured') hr (by
        simp only [Array.toList_append, Array.toList_map]
        exact (h1.append hl).append h2)
      simp only [resolve, Deferred.ofValue, he]
      exact this
    generalize hu : a.eval fo = u at hfr
    cases hfr with
    | any h _ => cases h
    | flat hf => simp [flat] at hf
    | func ha h1 hc h2 => exact key _ _ hu (.of_prel ⟨ha, h1⟩) (.of_prel ⟨hc, h2⟩)
  · rename_i hc
    subst hc
    split at h
    case h_2 => cases h
    rename_i x hx
    obtain ⟨hl, _⟩ := opndsL_rel ht hr.glob _ _ hx
    have : ∃ x', args.map a.eval = #[x'] ∧ VRel s.heap.size ρ x x' := by
      generalize hm : args.toList.map a.eval = m at hl
      have hm' : args.map a.eval = m.toArray := Array.ext' (by rw [Array.toList_map, hm])
      cases hl with
      | cons hv hr' => cases hr' with
        | nil => exact ⟨_, hm', hv⟩
    obtain ⟨x', hx', hv⟩ := this
    have := OpGives.of_gives (evLen_spec (ty := ty) h hr hv)
    simp only [resolve, hx']
    exact this
  · rename_i hc
    subst hc
    split at h
    case h_2 => cases h
    rename_i x y hx
    obtain ⟨hl, _⟩ := opndsL_rel ht hr.glob _ _ hx
    have : ∃ x' y', args.map a.eval = #[x', y'] ∧ VRel s.heap.size ρ x x' ∧ VRel s.heap.size ρ y y' := by
      generalize hm : args.toList.map a.eval = m at hl
      have hm' : args.map a.eval = m.toArray := Array.ext' (by rw [Array.toList_map, hm])
      cases hl with
      | cons hv hr' => cases hr' with
        | cons hv2 hr2 => cases hr2 with
          | nil => exact ⟨_, _, hm', hv, hv2⟩
    obtain ⟨x', y', hx', hv, hv2⟩ := this
    have := OpGives.of_gives (evAppendA_spec (ty := ty) h hh hr hv hv2)
    simp only [resolve, hx']
    exact this
  · rename_i hc
    subst hc
    split at h
    case h_2 => cases h
    rename_i x y hx
    obtain ⟨hl, _⟩ := opndsL_rel ht hr.glob _ _ hx
    have : ∃ x' y', args.map a.eval = #[x', y'] ∧ VRel s.heap.size ρ x x' ∧ VRel s.heap.size ρ y y' := by
      generalize hm : args.toList.map a.eval = m at hl
      have hm' : args.map a.eval = m.toArray := Array.ext' (by rw [Array.toList_map, hm])
      cases hl with
      | cons hv hr' => cases hr' with
        | cons hv2 hr2 => cases hr2 with
          | nil => exact ⟨_, _, hm', hv, hv2⟩
    obtain ⟨x', y', hx', hv, hv2⟩ := this
    have := OpGives.of_gives (evCopy_spec (ty := ty) h hh hr hv hv2)
    simp only [resolve, hx']
    exact this
  · rename_i hc
    subst hc
    split at h
    case h_2 => cases h
    rename_i x hx
    obtain ⟨hl, _⟩ := opndsL_rel ht hr.glob _ _ hx
    have : ∃ x', args.map a.eval = #[x'] ∧ VRel s.heap.size ρ x x' := by
      generalize hm : args.toList.map a.eval = m at hl
      have hm' : args.map a.eval = m.toArray := Array.ext' (by rw [Array.toList_map, hm])
      cases hl with
      | cons hv hr' => cases hr' with
        | nil => exact ⟨_, hm', hv⟩
    obtain ⟨x', hx', hv⟩ := this
    have := OpGives.of_gives (evClear_spec (ty := ty) h hh hr hv)
    simp only [resolve, hx']
    exact this
  · cases h

theorem evNew_spec {ρ : Rho} {s : St} {w : World} (hr : HRel P B ρ s.heap w) (t : TypeId) (cs cs' : Array Value) (hs : cs.size = cs'.size)
    (hsc : cs.all scalar = true) (hv : ∀ (i : Nat) (h1 : i < cs.size) (h2 : i < cs'.size), VRel s.heap.size ρ cs[i] cs'[i]) :
    Gives P B ρ s w (.pointer (some ⟨s.heap.size, 0, none⟩)) (s.new cs 0 false) ((do pure (.pointer (some (← newRow t cs'))) : Sem Value).run P w) := by
  obtain ⟨hR, hB⟩ := new_block hr (.inl rfl) cs 0 1 rfl [] false cs' #[] t hs (fun i h1 h2 => ⟨Array.all_eq_true.1 hsc i h1, hv i h1 h2⟩)
  generalize hL : (⟨w.heap.size, 0, cs.size, 0, cs'.size + (#[] : Array Value).size, false⟩ : Loc) = L at hR
  rw [new_eq]
  refine ⟨.pointer (some ⟨w.heap.size, 0, none⟩), w.alloc (.cells (cs' ++ #[]) t), upd ρ s.heap.size L, ?_, ?_, hR, step_push (.refl s) L _ hr hB⟩
  · simp [newRow]
  · have := @VRel.ptr (s.heap.size + 1) (upd ρ s.heap.size L) s.heap.size 0 ⟨by omega, by rw [upd_same, ← hL]⟩
    have hL0 : (upd ρ s.heap.size L).addr ⟨s.heap.size, 0, none⟩ = ⟨w.heap.size, 0, none⟩ := by rw [Rho.addr]; simp only [upd_same]; rw [← hL]
    rw [hL0] at this
    simpa using this

theorem eqScalar_run {d : Nat} {t : TypeId} {a b : Value} {r : Bool} (h : eqScalar P t a b = some r) (w : World) : (Op.equalIn (d + 1) t a b).run P w = .ok r w := by
  unfold eqScalar at h
  split at h
  · rename_i hu; simp only [Option.some.injEq] at h; subst h; exact run_equalIn_bool' w d t _ _ hu
  · rename_i hu
    split at h
    · rename_i hk; subst hk; simp only [Option.some.injEq] at h; subst h; exact run_equalIn_int w d t _ _ _ _ hu
    · cases h
  · rename_i hu; simp only [Option.some.injEq] at h; subst h; exact run_equalIn_string w d t _ _ hu
  · cases h
theorem eqFieldsE_run {d : Nat} {xs ys : Array Value} (w : World) : ∀ (fs : List Field) (r : Bool), eqFieldsE P xs ys fs = some r → (Op.eqFields (d + 1) xs ys fs).run P w = .ok r w
  | [], r, h => by simp only [eqFieldsE, Option.some.injEq] at h; subst h; simp [Op.eqFields]
  | f :: fs, r, h => by
    unfold eqFieldsE at h
    unfold Op.eqFields
    split at h
    · rename_i hn
      rw [if_pos hn]
      split at h
      case h_2 => cases h
      rename_i a b hagg hx hy
      split at h
      case h_2 => cases h
      rename_i r1 r2 h1 h2
      simp only [Option.some.injEq] at h
      subst h
      have p1 : (part f.type xs f.offset).run P w = .ok a w := by simp [part, Sem.run_bind, isAggT_run hagg, hx]
      have p2 : (part f.type ys f.offset).run P w = .ok b w := by simp [part, Sem.run_bind, isAggT_run hagg, hy]
      have p3 := eqScalar_run (d := d) h1 w
      have ih := eqFieldsE_run (d := d) w fs r2 h2
      simp only [Sem.run_bind, p1, p2, p3, Result.andThen_ok]
      cases r1
      · simp
      · simpa using ih
    · rename_i hn
      rw [if_neg hn]
      exact eqFieldsE_run (d := d) w fs r h
theorem evAggEq_run {op : BinOp} {ty : TypeId} {v u : Value} {b : Bool} {x y : Operand} {w : World} (h : evAggEq P op ty v u = some b) : ((do eqGuard op ty x y v u; binOp op ty v u : Sem Value)).run P w = .ok (.bool b) w := by
  unfold evAggEq at h
  split at h
  case h_2 => cases h
  rename_i xs ys fs hu
  have hfs : P.fieldsOf ty = fs := by simp [Program.fieldsOf, hu]
  split at h
  case isFalse => cases h
  rename_i hc
  have hs : ∀ r, eqFieldsE P xs ys fs.toList = some r → (Op.equalIn 10000 ty (.agg xs) (.agg ys)).run P w = .ok r w := fun r hr => by
    rw [show (10000 : Nat) = 9999 + 1 from rfl, run_equalIn_struct w 9999 ty xs ys (by rw [hfs]; exact hu) hc.1, hfs]
    exact eqFieldsE_run w _ r hr
  rw [Sem.run_bind, run_eqGuard_agg w op ty x y xs ys hc.2, Result.andThen_ok]
  split at h
  · rename_i r hr
    simp only [Option.some.injEq] at h
    subst h
    rw [run_eql_struct, hs r hr, Result.andThen_ok]
  · rename_i r hr
    simp only [Option.some.injEq] at h
    subst h
    rw [run_neq_struct, hs r hr, Result.andThen_ok]
  · cases h

theorem evStrEq_run {op : BinOp} {ty : TypeId} {v u : Value} {b : Bool} {x y : Operand} {w : World} (h : evStrEq P op ty v u = some b) : ((do eqGuard op ty x y v u; binOp op ty v u : Sem Value)).run P w = .ok (.bool b) w := by
  unfold evStrEq at h
  split at h
  case h_2 => cases h
  rename_i a c hu
  have hg : ∀ op, (eqGuard op ty x y (.string a) (.string c)).run P w = .ok () w := by intro op; cases op <;> rfl
  have hq : eqL a.data.toList c.data.toList = (a.toList == c.toList) := by rw [eqL_eq, ByteArray.toList_eq, ByteArray.toList_eq]
  rw [Sem.run_bind, hg op, Result.andThen_ok]
  split at h
  · simp only [Option.some.injEq] at h; subst h
    have : Go.binOp .eql ty (.string a) (.string c) = pure (.bool (a.toList == c.toList)) := rfl
    rw [this, hq]; rfl
  · simp only [Option.some.injEq] at h; subst h
    have : Go.binOp .neq ty (.string a) (.string c) = pure (.bool !(a.toList == c.toList)) := rfl
    rw [this, hq]; rfl
  · cases h
theorem evFloat_run {op : BinOp} {ty : TypeId} {v u r : Value} {s s' : St} {x y : Operand} {w : World} (h : evFloat op v u s = some (r, s')) (hh : s'.Holds) :
    Same s s' ∧ flat r = true ∧ ((do eqGuard op ty x y v u; binOp op ty v u : Sem Value)).run P w = .ok r w := by
  unfold evFloat at h
  split at h
  case h_2 => cases h
  rename_i k a k' b k2 r0 π _
  split at h
  case isFalse => cases h
  rename_i hk
  obtain ⟨rfl, rfl⟩ := hk
  simp only [Option.some.injEq, Prod.mk.injEq] at h
  obtain ⟨rfl, rfl⟩ := h
  have hfb : floatBits op _ a b = some r0 := hh _ (List.mem_cons_self ..)
  refine ⟨⟨rfl, rfl, [_], rfl⟩, rfl, ?_⟩
  have hg : ∀ k : FloatKind, (eqGuard op ty x y (.float k a) (.float k b)).run P w = .ok () w := by intro k; cases op <;> rfl
  rw [Sem.run_bind, hg, Result.andThen_ok, run_float_arith w _ _ _ _ _ _ hfb]

theorem evOp_spec {call : CallFn} (hcall : CallSound P call) {ρ : Rho} {s s' : St} {w : World} {o : Oper} {t : Tr} {a : Act} {v : Value}
    (h : evOp P call o t s = some (v, s')) (hh : s'.Holds) (hr : HRel P B ρ s.heap w) (ht : TRel s.heap.size ρ t a.tmps) :
    OpGives P B ρ s w v s' ((execOp a.eval o).run P w) := by
  obtain ⟨dst, op, ty, pos, after, guard⟩ := o
  have rel : ∀ {x : Operand} {u : Value}, opnd P t x = some u → VRel s.heap.size ρ u (a.eval x) := fun hx => opnd_rel hx ht hr.glob
  have mv : ∀ {x : Operand} {s1 : St}, evMove P t x s1 = some (v, s') → Same s s1 → OpGives P B ρ s w v s' (.ok (.value (a.eval x)) w) := by
    intro x s1 hx hs1
    unfold evMove at hx
    split at hx
    · rename_i u hu
      simp only [Option.some.injEq, Prod.mk.injEq] at hx
      obtain ⟨rfl, rfl⟩ := hx
      exact ⟨ρ, by rw [hs1.heap]; exact rel hu, by rw [hs1.heap]; exact hr, hs1.step _ _⟩
    · cases hx
  have w1 : ∀ {x : Operand} {k : Value → Option (Value × St)}, with1 P t x k = some (v, s') → ∃ u, opnd P t x = some u ∧ k u = some (v, s') := by
    intro x k hx
    unfold with1 at hx
    split at hx
    · exact ⟨_, ‹_›, hx⟩
    · cases hx
  have w2 : ∀ {x y : Operand} {k : Value → Value → Option (Value × St)}, with2 P t x y k = some (v, s') → ∃ u z, opnd P t x = some u ∧ opnd P t y = some z ∧ k u z = some (v, s') := by
    intro x y k hx
    unfold with2 at hx
    split at hx
    · exact ⟨_, _, ‹_›, ‹_›, hx⟩
    · cases hx
  cases op
  case move x => exact mv h (.refl _)
  case assign x => exact mv h (.refl _)
  case pick c x y =>
    simp only [evOp, evPick] at h
    split at h
    case h_2 => cases h
    rename_i k hk
    have hc := (rel hk).eq_of_flat rfl
    split at h
    · rename_i s1 ht1
      obtain ⟨hs, hb⟩ := test_spec ht1
      have hk1 : k = true := hb (by
        unfold evMove at h
        split at h
        · simp only [Option.some.injEq, Prod.mk.injEq] at h; obtain ⟨_, rfl⟩ := h; exact hh
        · cases h)
      subst hk1
      have : (execOp a.eval ⟨dst, .pick c x y, ty, pos, after, guard⟩).run P w = .ok (.value (a.eval x)) w := by
        simp [execOp, hc, asBool]
      rw [this]
      exact mv h hs
    · rename_i s1 ht1
      obtain ⟨hs, hb⟩ := test_spec ht1
      have hk1 : k = false := hb (by
        unfold evMove at h
        split at h
        · simp only [Option.some.injEq, Prod.mk.injEq] at h; obtain ⟨_, rfl⟩ := h; exact hh
        · cases h)
      subst hk1
      have : (execOp a.eval ⟨dst, .pick c x y, ty, pos, after, guard⟩).run P w = .ok (.value (a.eval y)) w := by
        simp [execOp, hc, asBool]
      rw [this]
      exact mv h hs
    · cases h
  case alloc elem =>
    simp only [evOp, evAlloc] at h
    split at h
    case h_2 => cases h
    rename_i i hi
    split at h
    case h_2 => cases h
    rename_i z hz
    split at h
    case isFalse => cases h
    rename_i hg
    simp only [Bool.and_eq_true] at hg
    simp only [Option.some.injEq, Prod.mk.injEq] at h
    obtain ⟨rfl, rfl⟩ := h
    have hfl := flatA_all.1 (flat_cells hg.1)
    have := evNew_spec (B := B) hr elem z.cells z.cells rfl hg.2 (fun i h1 h2 => .flat (hfl _ (Array.mem_toList_iff.2 (Array.getElem_mem h1))))
    refine OpGives.of_gives ?_
    have e : (Instr.alloc elem true (.tuple #[])).run P w = (do pure (.pointer (some (← newRow elem z.cells))) : Sem Value).run P w := by
      simp [Instr.alloc, zeroValue, typeInfo, Sem.run_bind, hi, hz, newVar]
    rw [e, lenQ_eq]
    exact this
  case box elem x =>
    simp only [evOp, evBox] at h
    split at h
    case h_2 => cases h
    rename_i u hu
    split at h
    case isFalse => cases h
    rename_i hg
    simp only [Option.some.injEq, Prod.mk.injEq] at h
    obtain ⟨rfl, rfl⟩ := h
    obtain ⟨c1, c2⟩ := (rel hu).cells
    rw [lenQ_eq]
    exact OpGives.of_gives (evNew_spec hr elem _ _ c1 hg c2)
  case build ty2 parts =>
    simp only [evOp, withPs] at h
    split at h
    case h_2 => cases h
    rename_i ps hps
    exact OpGives.of_gives (evBuild_spec h hr (by simpa using partsL_rel ht hr.glob _ _ hps))
  case buildSlice ty2 len parts =>
    simp only [evOp, withPs] at h
    split at h
    case h_2 => cases h
    rename_i ps hps
    exact OpGives.of_gives (evBuildSlice_spec h hr (by simpa using partsL_rel ht hr.glob _ _ hps))
  case load ty2 x =>
    simp only [evOp] at h
    obtain ⟨u, hu, h⟩ := w1 h
    exact OpGives.of_gives (evLoad_spec h hh hr (rel hu))
  case store ty2 x y =>
    simp only [evOp] at h
    obtain ⟨u1, u2, h1, h2, h⟩ := w2 h
    obtain ⟨rfl, w', hrun, hR, hS⟩ := evStore_spec h hh hr (rel h1) (rel h2)
    have : (execOp a.eval ⟨dst, .store ty2 x y, ty, pos, after, guard⟩).run P w = .ok .skip w' := by
      simp only [execOp, Sem.run_bind, hrun]; rfl
    rw [this]
    exact ⟨rfl, ρ, hR, hS⟩
  case nilCheck x =>
    simp only [evOp, evNilCheck] at h
    split at h
    case h_2 => cases h
    rename_i p hp
    simp only [Option.some.injEq, Prod.mk.injEq] at h
    obtain ⟨rfl, rfl⟩ := h
    have hv := rel hp
    obtain ⟨b', hb', hn⟩ := ptr_shape hv
    cases b' with
    | none => simp at hn
    | some q =>
      have : (execOp a.eval ⟨dst, .nilCheck x, ty, pos, after, guard⟩).run P w = .ok (.value (.pointer (some q))) w := by
        simp [execOp, hb']
      rw [this]
      exact ⟨ρ, by rw [← hb']; exact hv, hr, .refl _ _ _ _⟩
  case binOp op2 ty2 x y ty3 =>
    simp only [evOp, evBin] at h
    split at h
    · rename_i k a1 k' b1 h1 h2
      unfold evBinInt at h
      split at h
      · rename_i v1 s1 hi
        obtain ⟨hsame, hn⟩ := named_spec h
        obtain rfl := hn hh
        obtain ⟨hs, hf, hrun⟩ := evInt_spec (P := P) (ty := ty2) hi (hsame.holds hh) x y w
        refine OpGives.of_gives ?_
        rw [(rel h1).eq_of_flat rfl, (rel h2).eq_of_flat rfl, hrun]
        exact gives_same hr (hs.trans hsame) (.flat hf)
      · rw [cond_eq_ite] at h
        split at h
        · cases h
        · exact evFlat_spec h hh (by simp) hr ht
    case h_3 => cases h
    rename_i u1 u2 _ h1 h2
    split at h
    · rename_i hfl
      simp only [Bool.and_eq_true] at hfl
      unfold evBinFlat at h
      split at h
      · split at h
        · rename_i b hb
          simp only [Option.some.injEq, Prod.mk.injEq] at h
          obtain ⟨rfl, rfl⟩ := h
          refine OpGives.of_gives ?_
          rw [(rel h1).eq_of_flat hfl.1, (rel h2).eq_of_flat hfl.2, evStrEq_run hb]
          exact gives_same hr (.refl _) (.flat rfl)
        · exact evFlat_spec h hh (by simp) hr ht
      split at h
      · rename_i b hb
        simp only [Option.some.injEq, Prod.mk.injEq] at h
        obtain ⟨rfl, rfl⟩ := h
        refine OpGives.of_gives ?_
        rw [(rel h1).eq_of_flat hfl.1, (rel h2).eq_of_flat hfl.2, evAggEq_run hb]
        exact gives_same hr (.refl _) (.flat rfl)
      split at h
      · rename_i r0 hfo
        simp only [Option.some.injEq] at h
        subst h
        obtain ⟨hsame, hf, hrun⟩ := evFloat_run (P := P) (ty := ty2) (x := x) (y := y) (w := w) hfo hh
        refine OpGives.of_gives ?_
        rw [(rel h1).eq_of_flat hfl.1, (rel h2).eq_of_flat hfl.2, hrun]
        exact gives_same hr hsame (.flat hf)
      · exact evFlat_spec h hh (by simp) hr ht
    · unfold evBinNil at h
      split at h
      · rename_i b hb
        simp only [Option.some.injEq, Prod.mk.injEq] at h
        obtain ⟨rfl, rfl⟩ := h
        refine OpGives.of_gives ?_
        rw [evNil_spec (op := .eql) hb x y (rel h1) (rel h2) (.inl rfl)]
        exact gives_same hr (.refl _) (.flat rfl)
      · rename_i b hb
        simp only [Option.some.injEq, Prod.mk.injEq] at h
        obtain ⟨rfl, rfl⟩ := h
        refine OpGives.of_gives ?_
        rw [evNil_spec (op := .neq) hb x y (rel h1) (rel h2) (.inr rfl)]
        exact gives_same hr (.refl _) (.flat rfl)
      · cases h
  case unOp op2 ty2 x => exact evFlat_spec h hh (by simp) hr ht
  case convert src dst2 x =>
    simp only [evOp, evConv] at h
    split at h
    case h_2 => cases h
    rename_i u hu
    split at h
    · rename_i r h1
      simp only [Option.some.injEq] at h; subst h
      unfold evConvInt at h1
      try simp only [lenQ_eq, pushQ_eq, setQ_eq] at h1
      split at h1
      · rename_i k n sd k2 hs hd
        obtain ⟨hsame, hn⟩ := named_spec h1
        obtain rfl := hn hh
        refine OpGives.of_gives ?_
        rw [(rel hu).eq_of_flat rfl, wrapF_eq]
        have : (convert src dst2 (.int k n)).run P w = .ok (.int k2 (k2.wrap n)) w := by
          simp only [convert, Sem.run_bind, run_underlying hs, run_underlying hd, Result.andThen_ok]
          rfl
        rw [this]
        exact gives_same hr hsame (.flat rfl)
      · cases h1
    · split at h
      · rename_i r h1
        simp only [Option.some.injEq] at h; subst h
        exact OpGives.of_gives (evStrToBytes_spec h1 hr (rel hu))
      · split at h
        · rename_i r h1
          simp only [Option.some.injEq] at h; subst h
          exact OpGives.of_gives (evBytesToStr_spec h1 hh hr (rel hu))
        · exact evFlat_spec h hh (by simp) hr ht
  case makeFunc fn first captured =>
    simp only [evOp] at h
    unfold evMakeFunc at h
    split at h
    case h_2 => cases h
    rename_i f
    split at h
    case h_2 => cases h
    rename_i l1 l2 e1 e2
    simp only [Option.some.injEq, Prod.mk.injEq] at h
    obtain ⟨rfl, rfl⟩ := h
    have arr : ∀ {xs : Array Operand} {l : List Value}, opndsL P t xs.toList = some l → PRel s.heap.size ρ ⟨l⟩ (xs.map a.eval) := by
      intro xs l hx
      obtain ⟨hl, _⟩ := opndsL_rel ht hr.glob _ _ hx
      have hlen := hl.len
      refine ⟨by simpa using hlen, fun i q1 q2 => ?_⟩
      have go : ∀ {l l' : List Value}, LRel s.heap.size ρ l l' → ∀ (i : Nat) (q1 : i < l.length) (q2 : i < l'.length), VRel s.heap.size ρ l[i] l'[i] := by
        intro l l' h
        induction h with
        | nil => intro i q1; simp at q1
        | cons hv _ ih => intro i q1 q2; cases i with
          | zero => exact hv
          | succ i => simpa using ih i (by simpa using q1) (by simpa using q2)
      have := go hl i (by simpa using q1) (by simpa using q2)
      simpa using this
    obtain ⟨r1, r2⟩ := arr e1
    obtain ⟨r3, r4⟩ := arr e2
    have : (execOp a.eval ⟨dst, .makeFunc (.func f) first captured, ty, pos, after, guard⟩).run P w = .ok (.value (.func (.func f) (first.map a.eval) (captured.map a.eval))) w := rfl
    rw [this]
    exact ⟨ρ, .func r1 r2 r3 r4, hr, .refl _ _ _ _⟩
  case makeSlice ty2 l c =>
    simp only [evOp] at h
    obtain ⟨u1, u2, h1, h2, h⟩ := w2 h
    exact OpGives.of_gives (evMakeSlice_spec h hh hr (rel h1) (rel h2))
  case slice ty2 x lo hi mx =>
    simp only [evOp, evSliceOp] at h
    have bound : ∀ {z : Option Operand} {r : Option Value}, opndO P t z = some r → z.map a.eval = r := by
      intro z r hz
      cases z with
      | none => simp only [opndO, Option.some.injEq] at hz; subst hz; rfl
      | some x =>
        simp only [opndO] at hz
        split at hz
        · rename_i u hu
          split at hz
          · rename_i hf
            simp only [Option.some.injEq] at hz; subst hz
            simp [(rel hu).eq_of_flat hf]
          · cases hz
        · cases hz
    split at h
    case h_3 => cases h
    · rename_i u1 l1 l2 h1 h2 h3 h4
      have e4 := bound h4
      cases mx with
      | some _ => cases e4
      | none => exact OpGives.of_gives (evSliceAny_spec h hh hr (rel h1) (bound h2) (bound h3))
    · rename_i u1 l2 l3 h1 h2 h3 h4
      have e2 := bound h2
      have e3 := bound h3
      have e4 := bound h4
      have := evSlice3_spec h hh hr (rel h1)
      rw [← e2, ← e3, ← e4] at this
      exact OpGives.of_gives this
  case fieldAddr ty2 x f =>
    simp only [evOp] at h
    obtain ⟨u, hu, h⟩ := w1 h
    exact OpGives.of_gives (evFieldAddr_spec h hr (rel hu))
  case field ty2 x f =>
    simp only [evOp] at h
    obtain ⟨u, hu, h⟩ := w1 h
    exact OpGives.of_gives (evField_spec h hr (rel hu))
  case indexAddr ty2 x ix =>
    simp only [evOp] at h
    obtain ⟨u1, u2, h1, h2, h⟩ := w2 h
    exact OpGives.of_gives (evIndexAddr_spec h hh hr (rel h1) (rel h2))
  case index ty2 x ix =>
    simp only [evOp] at h
    obtain ⟨u1, u2, h1, h2, h⟩ := w2 h
    exact OpGives.of_gives (evIndex_spec h hh hr (rel h1) (rel h2))
  case extract x i =>
    simp only [evOp, evExtract] at h
    split at h
    case h_2 => cases h
    rename_i vs hvs
    split at h
    case h_2 => cases h
    rename_i u hu
    simp only [Option.some.injEq, Prod.mk.injEq] at h
    obtain ⟨rfl, rfl⟩ := h
    have hv := rel hvs
    have key : ∀ vs', a.eval x = .tuple vs' → PRel s.heap.size ρ vs vs' → OpGives P B ρ s w u s ((execOp a.eval ⟨dst, .extract x i, ty, pos, after, guard⟩).run P w) := by
      intro vs' he hp
      obtain ⟨u', hu', hr'⟩ := get_rel hp.1 hp.2 hu
      have : (execOp a.eval ⟨dst, .extract x i, ty, pos, after, guard⟩).run P w = .ok (.value u') w := by
        simp [execOp, he, Instr.extract, hu']
      rw [this]
      exact ⟨ρ, hr', hr, .refl _ _ _ _⟩
    generalize he : a.eval x = y at hv
    cases hv with
    | any h _ => cases h
    | flat hf => exact key vs he (PRel.refl_flat (by simpa [flat] using hf))
    | tuple hs h2 => exact key _ he ⟨hs, h2⟩
  case call c =>
    simp only [evOp, evCallAny] at h
    split at h
    · exact evFlat_spec h hh (by simp) hr ht
    · exact evCallOp_spec hcall h hh hr ht
  all_goals simp [evOp] at h
end Go.Ev
