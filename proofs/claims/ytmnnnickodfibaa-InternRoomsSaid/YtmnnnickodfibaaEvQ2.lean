/- The faster run: its trees, its tables, its lists and numbers are what they should be. -/
import Derived.Test.YtmnnnickodfibaaEvQ1
namespace Go.Ev
open Go.RowKit
variable {P : Program}

/-! Trees. -/
theorem trG_pthF : ∀ (d i : Nat) (t : Tr), i ≤ d → trG (pthF d i) t = t.get i
  | 0, i, t, h => by
    obtain rfl : i = 0 := by omega
    cases t <;> rfl
  | d + 1, 0, t, _ => by cases t <;> rfl
  | d + 1, i + 1, t, h => by
    simp only [pthF]
    cases hb : Nat.beq (i % 2) 0 with
    | true =>
      simp only [cond]
      cases t with
      | leaf => rfl
      | node l v r =>
        show trG (pthF d (i / 2)) l = _
        rw [trG_pthF d (i / 2) l (by omega)]
        simp only [Tr.get, hb, cond]
    | false =>
      simp only [cond]
      cases t with
      | leaf => rfl
      | node l v r =>
        show trG (pthF d (i / 2)) r = _
        rw [trG_pthF d (i / 2) r (by omega)]
        simp only [Tr.get, hb, cond]
theorem trG_eq (i : Nat) (t : Tr) : trG (pth i) t = t.get i := trG_pthF i i t (Nat.le_refl i)
theorem trP_pthF : ∀ (d i : Nat) (t : Tr) (u : Value) (k : Tr → FR), i ≤ d → trP (pthF d i) t u k = k (t.put i u)
  | 0, i, t, u, k, h => by
    obtain rfl : i = 0 := by omega
    cases t <;> rfl
  | d + 1, 0, t, u, k, _ => by cases t <;> rfl
  | d + 1, i + 1, t, u, k, h => by
    simp only [pthF]
    cases hb : Nat.beq (i % 2) 0 with
    | true =>
      simp only [cond]
      cases t with
      | leaf => rfl
      | node l v r =>
        show trP (pthF d (i / 2)) l u (fun l => k (.node l v r)) = _
        rw [trP_pthF d (i / 2) l u _ (by omega)]
        simp only [Tr.put, hb, cond]
    | false =>
      simp only [cond]
      cases t with
      | leaf => rfl
      | node l v r =>
        show trP (pthF d (i / 2)) r u (fun r => k (.node l v r)) = _
        rw [trP_pthF d (i / 2) r u _ (by omega)]
        simp only [Tr.put, hb, cond]
theorem trP_eq (i : Nat) (t : Tr) (u : Value) (k : Tr → FR) : trP (pth i) t u k = k (t.put i u) := trP_pthF i i t u k (Nat.le_refl i)
theorem putDK_eq (d : Option Tmp) (t : Tr) (v : Value) (k : Tr → FR) : putDK (d.map pth) t v k = k (putT t d v) := by
  cases d with
  | none => rfl
  | some d =>
    show trP (pth d) t v k = _
    rw [trP_eq]; simp only [putT, Tr.putR_eq]
noncomputable def htPut : Pth → HT → AObj → HT
  | .here, .leaf, o => .node .leaf o .leaf
  | .here, .node l _ r, o => .node l o r
  | .l p, .leaf, o => .node (htPut p .leaf o) objDead .leaf
  | .l p, .node l v r, o => .node (htPut p l o) v r
  | .r p, .leaf, o => .node .leaf objDead (htPut p .leaf o)
  | .r p, .node l v r, o => .node l v (htPut p r o)
theorem htP_eq : ∀ (p : Pth) (h : HT) (o : AObj) (k : HT → FR), htP p h o k = k (htPut p h o)
  | .here, h, o, k => by cases h <;> rfl
  | .l p, .leaf, o, k => by
    show htP p .leaf o (fun l => k (.node l objDead .leaf)) = _
    rw [htP_eq p]; rfl
  | .l p, .node l v r, o, k => by
    show htP p l o (fun l => k (.node l v r)) = _
    rw [htP_eq p]; rfl
  | .r p, .leaf, o, k => by
    show htP p .leaf o (fun r => k (.node .leaf objDead r)) = _
    rw [htP_eq p]; rfl
  | .r p, .node l v r, o, k => by
    show htP p r o (fun r => k (.node l v r)) = _
    rw [htP_eq p]; rfl
theorem htG_leaf (p : Pth) : htG p .leaf = objDead := by cases p <;> rfl
theorem htG_same : ∀ (p : Pth) (h : HT) (o : AObj), htG p (htPut p h o) = o
  | .here, h, o => by cases h <;> rfl
  | .l p, .leaf, o => htG_same p .leaf o
  | .l p, .node l v r, o => htG_same p l o
  | .r p, .leaf, o => htG_same p .leaf o
  | .r p, .node l v r, o => htG_same p r o
theorem htG_other : ∀ (p q : Pth) (h : HT) (o : AObj), q ≠ p → htG q (htPut p h o) = htG q h
  | .here, .here, _, _, h => absurd rfl h
  | .here, .l q, h, o, _ => by cases h with
    | leaf => exact htG_leaf q
    | node l v r => rfl
  | .here, .r q, h, o, _ => by cases h with
    | leaf => exact htG_leaf q
    | node l v r => rfl
  | .l p, .here, h, o, _ => by cases h <;> rfl
  | .r p, .here, h, o, _ => by cases h <;> rfl
  | .l p, .r q, h, o, _ => by cases h with
    | leaf => exact htG_leaf q
    | node l v r => rfl
  | .r p, .l q, h, o, _ => by cases h with
    | leaf => exact htG_leaf q
    | node l v r => rfl
  | .l p, .l q, h, o, hne => by
    have hne : q ≠ p := fun e => hne (by rw [e])
    cases h with
    | leaf =>
      show htG q (htPut p .leaf o) = _
      rw [htG_other p q .leaf o hne]
      exact htG_leaf q
    | node l v r =>
      show htG q (htPut p l o) = _
      rw [htG_other p q l o hne]; rfl
  | .r p, .r q, h, o, hne => by
    have hne : q ≠ p := fun e => hne (by rw [e])
    cases h with
    | leaf =>
      show htG q (htPut p .leaf o) = _
      rw [htG_other p q .leaf o hne]
      exact htG_leaf q
    | node l v r =>
      show htG q (htPut p r o) = _
      rw [htG_other p q r o hne]; rfl
theorem htG_put (h : HT) (i j : Nat) (o : AObj) : htG (pth j) (htPut (pth i) h o) = if j = i then o else htG (pth j) h := by
  split
  · rename_i e; subst e; exact htG_same _ _ _
  · rename_i e; exact htG_other _ _ _ _ fun e' => e (pth_inj e')

theorem arrL_len (h : HT) (n : Nat) : (arrL h n).length = n := by simp [arrL]
theorem arrL_get (h : HT) (n b : Nat) : (arrL h n)[b]? = if b < n then some (htG (pth b) h) else none := by
  unfold arrL
  rw [List.getElem?_map]
  split
  · rename_i hb; rw [List.getElem?_range hb]; rfl
  · rename_i hb; rw [List.getElem?_eq_none (by simpa using hb)]; rfl
theorem arrL_push (h : HT) (n : Nat) (o : AObj) : arrL (htPut (pth n) h o) (n + 1) = arrL h n ++ [o] := by
  apply List.ext_getElem?
  intro i
  rw [arrL_get, List.getElem?_append, arrL_len, arrL_get, htG_put]
  by_cases h1 : i < n
  · rw [if_pos (by omega), if_neg (by omega), if_pos h1, if_pos h1]
  · rw [if_neg h1]
    by_cases h2 : i = n
    · subst h2; rw [if_pos (by omega), if_pos rfl]; simp
    · rw [if_neg (by omega), List.getElem?_eq_none (by simp; omega)]
theorem arrL_set (h : HT) (n b : Nat) (o : AObj) (hb : b < n) : arrL (htPut (pth b) h o) n = (arrL h n).set b o := by
  apply List.ext_getElem?
  intro i
  rw [arrL_get, List.getElem?_set, arrL_get, arrL_len, htG_put]
  by_cases h1 : i < n
  · rw [if_pos h1]
    by_cases h2 : b = i
    · subst h2; simp [hb]
    · rw [if_neg (by omega), if_neg h2, if_pos h1]
  · rw [if_neg h1]
    have : b ≠ i := by omega
    rw [if_neg this, if_neg h1]
theorem arrL_out (h : HT) (n b : Nat) (o : AObj) (hb : n ≤ b) : arrL (htPut (pth b) h o) n = arrL h n := by
  apply List.ext_getElem?
  intro i
  rw [arrL_get, arrL_get, htG_put]
  by_cases h1 : i < n
  · rw [if_pos h1, if_pos h1, if_neg (by omega)]
  · rw [if_neg h1, if_neg h1]
theorem arrL_take (h : HT) (m n : Nat) (hm : m ≤ n) : (arrL h n).take m = arrL h m := by
  apply List.ext_getElem?
  intro i
  rw [List.getElem?_take, arrL_get, arrL_get]
  by_cases h1 : i < m
  · rw [if_pos h1, if_pos (by omega), if_pos h1]
  · rw [if_neg h1, if_neg h1]
theorem toS_get (h : HT) (n low b : Nat) : getQ (toS h n low).heap b = if b < n then some (htG (pth b) h) else none := by
  rw [getQ_eq]
  show (arrL h n).toArray[b]? = _
  rw [List.getElem?_toArray, arrL_get]
theorem toS_len (h : HT) (n low : Nat) : lenQ (toS h n low).heap = n := by
  rw [lenQ_eq]; show (arrL h n).toArray.size = n
  simp [arrL_len]
theorem toS_size (h : HT) (n low : Nat) : (toS h n low).heap.size = n := by
  show (arrL h n).toArray.size = n
  simp [arrL_len]
theorem toS_push (h : HT) (n low : Nat) (o : AObj) : pushQ (toS h n low).heap o = ⟨arrL (htPut (pth n) h o) (n + 1)⟩ := by
  rw [pushQ_eq, arrL_push]; apply Array.ext'; simp [toS]
theorem toS_set (h : HT) (n low b : Nat) (o : AObj) (hb : b < n) : setQ (toS h n low).heap b o = ⟨arrL (htPut (pth b) h o) n⟩ := by
  rw [setQ_eq, arrL_set _ _ _ _ hb]
  apply Array.ext'
  simp [toS]

/-! Numbers as they stand. -/
theorem litK_eq (m : Nat) (k : Nat → FR) : litK m k = k m := rfl
theorem intLK_eq (z : Int) (k : Int → FR) : intLK z k = k z := by cases z <;> rfl
theorem ifK_spec {b : Bool} {k r : FR} (h : ifK b k = r) (hb : r ≠ .bad) : b = true ∧ k = r := by
  cases b with
  | false => exact absurd h.symm hb
  | true => exact ⟨rfl, h⟩

/-! Tables of values. -/
theorem intVK_cases (v : Value) (k : IntKind → Int → FR) (d : FR) : (∃ kd n, v = .int kd n ∧ intVK v k d = k kd n) ∨ intVK v k d = d := by
  cases v <;> first | exact .inl ⟨_, _, rfl, rfl⟩ | exact .inr rfl
theorem boolVK_spec {v : Value} {a b r : FR} (h : boolVK v a b = r) (hb : r ≠ .bad) : (v = .bool true ∧ a = r) ∨ (v = .bool false ∧ b = r) := by
  cases v with
  | bool c => cases c with
    | true => exact .inl ⟨rfl, h⟩
    | false => exact .inr ⟨rfl, h⟩
  | _ => exact absurd h.symm hb
theorem addrK_cases (a : Option Addr) (k : Nat → Nat → FR) (d : FR) : (∃ b off, a = some ⟨b, off, none⟩ ∧ addrK a k d = k b off) ∨ addrK a k d = d := by
  cases a with
  | none => exact .inr rfl
  | some a => obtain ⟨b, off, spot⟩ := a; cases spot with
    | none => exact .inl ⟨_, _, rfl, rfl⟩
    | some _ => exact .inr rfl
theorem ptrVK_cases (v : Value) (k : Nat → Nat → FR) (d : FR) : (∃ b off, v = .pointer (some ⟨b, off, none⟩) ∧ ptrVK v k d = k b off) ∨ ptrVK v k d = d := by
  cases v with
  | pointer a =>
    rcases addrK_cases a k d with ⟨b, off, rfl, h⟩ | h
    · exact .inl ⟨b, off, rfl, h⟩
    · exact .inr h
  | _ => exact .inr rfl
theorem ptrVK_spec {v : Value} {k : Nat → Nat → FR} {r : FR} (h : ptrVK v k .bad = r) (hb : r ≠ .bad) : ∃ b off, v = .pointer (some ⟨b, off, none⟩) ∧ k b off = r := by
  rcases ptrVK_cases v k .bad with ⟨b, off, h1, h2⟩ | h2
  · exact ⟨b, off, h1, by rw [← h2, h]⟩
  · rw [h2] at h; exact absurd h.symm hb
theorem intVK_spec {v : Value} {k : IntKind → Int → FR} {r : FR} (h : intVK v k .bad = r) (hb : r ≠ .bad) : ∃ kd n, v = .int kd n ∧ k kd n = r := by
  rcases intVK_cases v k .bad with ⟨kd, n, h1, h2⟩ | h2
  · exact ⟨kd, n, h1, by rw [← h2, h]⟩
  · rw [h2] at h; exact absurd h.symm hb
theorem sliceVK_cases (v : Value) (k : Nat → Nat → Nat → Nat → FR) (z : Nat → Nat → FR) (d : FR) : (∃ b off len cap, v = .slice (some ⟨b, off, none⟩) len cap ∧ sliceVK v k z d = k b off len cap) ∨ (∃ len cap, v = .slice none len cap ∧ sliceVK v k z d = z len cap) ∨ sliceVK v k z d = d := by
  cases v with
  | slice a len cap =>
    cases a with
    | none => exact .inr (.inl ⟨_, _, rfl, rfl⟩)
    | some a => obtain ⟨b, off, spot⟩ := a; cases spot with
      | none => exact .inl ⟨_, _, _, _, rfl, rfl⟩
      | some _ => exact .inr (.inr rfl)
  | _ => exact .inr (.inr rfl)
theorem sliceVK_spec {v : Value} {k : Nat → Nat → Nat → Nat → FR} {z : Nat → Nat → FR} {r : FR} (h : sliceVK v k z .bad = r) (hb : r ≠ .bad) : (∃ b off len cap, v = .slice (some ⟨b, off, none⟩) len cap ∧ k b off len cap = r) ∨ (∃ len cap, v = .slice none len cap ∧ z len cap = r) := by
  rcases sliceVK_cases v k z .bad with ⟨b, off, len, cap, h1, h2⟩ | ⟨len, cap, h1, h2⟩ | h2
  · exact .inl ⟨b, off, len, cap, h1, by rw [← h2, h]⟩
  · exact .inr ⟨len, cap, h1, by rw [← h2, h]⟩
  · rw [h2] at h; exact absurd h.symm hb
theorem aggVK_spec {v : Value} {k : List Value → FR} {r : FR} (h : aggVK v k .bad = r) (hb : r ≠ .bad) : ∃ l, v = .agg ⟨l⟩ ∧ k l = r := by
  cases v with
  | agg cs => obtain ⟨l⟩ := cs; exact ⟨l, rfl, h⟩
  | _ => exact absurd h.symm hb
theorem tupVK_spec {v : Value} {k : List Value → FR} {r : FR} (h : tupVK v k .bad = r) (hb : r ≠ .bad) : ∃ l, v = .tuple ⟨l⟩ ∧ k l = r := by
  cases v with
  | tuple cs => obtain ⟨l⟩ := cs; exact ⟨l, rfl, h⟩
  | _ => exact absurd h.symm hb
theorem fnVK_spec {v : Value} {k : FuncId → List Value → List Value → FR} {r : FR} (h : fnVK v k .bad = r) (hb : r ≠ .bad) : ∃ f a c, v = .func (.func f) a c ∧ k f a.toList c.toList = r := by
  cases v with
  | func fn a c =>
    cases fn with
    | func f => exact ⟨f, a, c, rfl, h⟩
    | _ => exact absurd h.symm hb
  | _ => exact absurd h.symm hb
theorem valK_spec {v : Value} {k : Value → FR} {r : FR} (h : valK v k = r) (hb : r ≠ .bad) : asSome v = some v ∧ k v = r := by
  cases v with
  | bool b => cases b <;> exact ⟨rfl, h⟩
  | func fn a c => cases fn <;> first | exact ⟨rfl, h⟩ | exact absurd h.symm hb
  | _ => exact ⟨rfl, h⟩
theorem asSome_val {v u : Value} (h : asSome v = some u) : v = u := by
  cases v with
  | func fn a c => cases fn <;> simp [asSome] at h <;> exact h
  | _ => simpa [asSome] using h
mutual
theorem flatQ_eq : ∀ v : Value, flatQ v = flat v
  | .bool _ => rfl
  | .int _ _ => rfl
  | .float _ _ => rfl
  | .complex _ _ _ => rfl
  | .string _ => rfl
  | .pointer none => rfl
  | .pointer (some _) => rfl
  | .slice none l c => by
    show (Nat.beq l 0 && Nat.beq c 0) = _
    cases l with
    | zero => cases c <;> rfl
    | succ l => rfl
  | .slice (some _) _ _ => by simp [flat, flatQ]
  | .map none => rfl
  | .map (some _) => rfl
  | .chan _ => rfl
  | .func _ _ _ => rfl
  | .nilFunc => rfl
  | .iface _ v => flatQ_eq v
  | .nilIface => rfl
  | .agg ⟨l⟩ => flatQ_list l
  | .tuple ⟨l⟩ => flatQ_list l
theorem flatQ_list : ∀ l : List Value, flatQ (.agg ⟨l⟩) = flatL l
  | [] => rfl
  | v :: r => by
    show (Bool.rec (motive := fun _ => Bool) false (flatQ (.agg ⟨r⟩)) (flatQ v) : Bool) = (flat v && flatL r)
    rw [flatQ_eq v, flatQ_list r]
    cases flat v <;> rfl
end
theorem scalarQ_eq (v : Value) : scalarQ v = scalar v := by cases v <;> rfl
theorem allQ_eq (f : Value → Bool) (l : List Value) : allQ f l = l.all f := by
  induction l with
  | nil => rfl
  | cons v r ih =>
    show (Bool.rec (motive := fun _ => Bool) false (allQ f r) (f v) : Bool) = _
    rw [ih, List.all_cons]; cases f v <;> rfl
theorem flatL_allF (l : List Value) : flatL l = l.all flat := by
  induction l with
  | nil => rfl
  | cons v r ih => simp [flatL, ih]
theorem allQ_flat (l : List Value) : allQ flatQ l = flatL l := by
  rw [allQ_eq, flatL_allF]; congr 1; funext v; exact flatQ_eq v

/-! Lists. -/
theorem cellK_spec : ∀ {l : List Value} {i : Nat} {k : Value → FR} {r : FR}, cellK l i k = r → r ≠ .bad → ∃ v, l[i]? = some v ∧ k v = r
  | [], i, k, r, h, hb => absurd h.symm hb
  | a :: l, 0, k, r, h, hb => ⟨a, rfl, h⟩
  | a :: l, i + 1, k, r, h, hb => by
    obtain ⟨v, h1, h2⟩ := cellK_spec (l := l) (i := i) (k := k) h hb
    exact ⟨v, by simpa using h1, h2⟩
theorem dropK_spec : ∀ {l : List Value} {i : Nat} {k : List Value → FR} {r : FR}, dropK l i k = r → r ≠ .bad → i ≤ l.length ∧ k (l.drop i) = r
  | [], 0, k, r, h, hb => ⟨Nat.le_refl _, h⟩
  | [], i + 1, k, r, h, hb => absurd h.symm hb
  | a :: l, 0, k, r, h, hb => ⟨Nat.zero_le _, h⟩
  | a :: l, i + 1, k, r, h, hb => by
    obtain ⟨h1, h2⟩ := dropK_spec (l := l) (i := i) (k := k) h hb
    exact ⟨by simpa using h1, h2⟩
theorem takeK_spec : ∀ {l : List Value} {i : Nat} {k : List Value → FR} {r : FR}, takeK l i k = r → r ≠ .bad → i ≤ l.length ∧ k (l.take i) = r
  | [], 0, k, r, h, hb => ⟨Nat.le_refl _, h⟩
  | [], i + 1, k, r, h, hb => absurd h.symm hb
  | a :: l, 0, k, r, h, hb => ⟨Nat.zero_le _, h⟩
  | a :: l, i + 1, k, r, h, hb => by
    obtain ⟨h1, h2⟩ := takeK_spec (l := l) (i := i) (k := fun r => k (a :: r)) h hb
    exact ⟨by simpa using h1, h2⟩
theorem overK_spec : ∀ {vs l : List Value} {k : List Value → FR} {r : FR}, overK vs l k = r → r ≠ .bad → vs.length ≤ l.length ∧ k (vs ++ l.drop vs.length) = r
  | [], l, k, r, h, hb => ⟨Nat.zero_le _, h⟩
  | v :: vs, [], k, r, h, hb => absurd h.symm hb
  | v :: vs, a :: l, k, r, h, hb => by
    obtain ⟨h1, h2⟩ := overK_spec (vs := vs) (l := l) (k := fun r => k (v :: r)) h hb
    exact ⟨by simpa using h1, h2⟩
theorem putsK_spec : ∀ {l : List Value} {i : Nat} {vs : List Value} {k : List Value → FR} {r : FR}, putsK l i vs k = r → r ≠ .bad → i + vs.length ≤ l.length ∧ k (l.take i ++ (vs ++ l.drop (i + vs.length))) = r
  | [], 0, vs, k, r, h, hb => by
    obtain ⟨h1, h2⟩ := overK_spec (vs := vs) (l := []) (k := k) h hb
    exact ⟨by omega, by simpa using h2⟩
  | [], i + 1, vs, k, r, h, hb => absurd h.symm hb
  | a :: l, 0, vs, k, r, h, hb => by
    obtain ⟨h1, h2⟩ := overK_spec (vs := vs) (l := a :: l) (k := k) h hb
    exact ⟨by omega, by simpa using h2⟩
  | a :: l, i + 1, vs, k, r, h, hb => by
    obtain ⟨h1, h2⟩ := putsK_spec (l := l) (i := i) (vs := vs) (k := fun r => k (a :: r)) h hb
    refine ⟨by simp only [List.length_cons]; omega, ?_⟩
    rw [← h2, show i + 1 + vs.length = (i + vs.length) + 1 by omega]; rfl
theorem appK_eq : ∀ (l m : List Value) (k : List Value → FR), appK l m k = k (l ++ m)
  | [], _, _ => rfl
  | a :: l, m, k => appK_eq l m fun r => k (a :: r)
theorem lenK_go : ∀ (l : List Value) (n : Nat) (k : Nat → FR), (List.rec (motive := fun _ => Nat → (Nat → FR) → FR) (fun n k => k n) (fun _ _ ih n k => litK (Nat.succ n) fun n => ih n k) l n k : FR) = k (n + l.length)
  | [], _, _ => rfl
  | a :: l, n, k => by
    have := lenK_go l (n + 1) k
    rw [show n + (a :: l).length = n + 1 + l.length by simp only [List.length_cons]; omega]
    exact this
theorem lenK_eq (l : List Value) (k : Nat → FR) : lenK l k = k l.length := by
  have := lenK_go l 0 k
  rw [Nat.zero_add] at this; exact this
theorem putCells_list : ∀ (vs : List Value) (cs : Array Value) (off : Nat), off + vs.length ≤ cs.size → (putCells cs off vs).toList = cs.toList.take off ++ (vs ++ cs.toList.drop (off + vs.length))
  | [], cs, off, h => by simp [putCells]
  | v :: vs, cs, off, h => by
    simp only [List.length_cons] at h
    rw [putCells, putCells_list vs (cs.setIfInBounds off v) (off + 1) (by simp; omega)]
    simp only [Array.toList_setIfInBounds, List.length_cons]
    have hlt : off < cs.toList.length := by simp; omega
    rw [List.drop_set_of_lt (by omega), List.take_add_one, List.take_set_of_le (by omega)]
    simp only [List.getElem?_set, hlt, if_true, Option.toList_some, List.append_assoc, List.singleton_append, List.cons_append, List.nil_append]
    rw [show off + 1 + vs.length = off + (vs.length + 1) by omega]
theorem valsK_spec : ∀ {l : List Value} {k : List Value → FR} {r : FR}, valsK l k = r → r ≠ .bad → k l = r
  | [], k, r, h, hb => h
  | v :: l, k, r, h, hb => by
    obtain ⟨h1, h2⟩ := valK_spec (v := v) h hb
    exact valsK_spec (l := l) h2 hb

/-! Numbers. -/
theorem wrapF_fit {kd : IntKind} {m : Nat} (h : Nat.ble m (maxQ kd) = true) : wrapF kd (.ofNat m) = .ofNat m := by
  have h := Nat.le_of_ble_eq_true h
  cases kd <;> simp only [maxQ] at h <;> simp only [wrapF] <;> simp only [Int.ofNat_eq_natCast] <;> first | (split <;> omega) | omega
theorem natIn_eq (kd : IntKind) (m : Nat) (k : Value → FR) : natIn kd m k = k (.int kd (wrapF kd (.ofNat m))) := by
  unfold natIn
  cases h : Nat.ble m (maxQ kd) with
  | false => exact intLK_eq _ _
  | true => show k _ = _; rw [wrapF_fit h]
theorem intIn_eq (kd : IntKind) (z : Int) (k : Value → FR) : intIn kd z k = k (.int kd (wrapF kd z)) := intLK_eq _ _
theorem boolK_eq (b : Bool) (k : Value → FR) : boolK b k = k (.bool b) := by cases b <;> rfl
theorem ikQ_inj {a b : IntKind} (h : Nat.beq (ikQ a) (ikQ b) = true) : a = b := by
  have h := Nat.eq_of_beq_eq_true h
  cases a <;> cases b <;> first | rfl | (simp [ikQ] at h)
theorem fits2_eq {kd : IntKind} {x y : Nat} (h : fits2 kd x y = true) : fitsU kd (.ofNat x) = true ∧ fitsU kd (.ofNat y) = true := by
  unfold fits2 at h
  cases h1 : Nat.ble x (maxQ kd) with
  | false => rw [h1] at h; cases h
  | true =>
    rw [h1] at h
    have h : Nat.ble y (maxQ kd) = true := h
    cases kd <;> exact ⟨h1, h⟩
def IOk (op : BinOp) (g : IOp) : Prop := ∀ (kd kd' : IntKind) (a b : Int) (k : Value → FR) (d : FR), (isShift op = true ∨ kd = kd') → g kd a b k d = d ∨ ∃ v, (∀ s : St, s.path = none → evInt op kd a kd' b s = some (v, s)) ∧ g kd a b k d = k v
theorem bitsQ_eq (kd : IntKind) : bitsQ kd = bitsF kd := by cases kd <;> rfl
theorem need_true {s : St} (h : s.path = none) : need s true = some s := by unfold need; rw [h]
theorem ifNeed_true {s : St} (v : Value) (h : s.path = none) : ifNeed s true v = some (v, s) := by unfold ifNeed; rw [need_true h]
theorem iop_ok {op : BinOp} {g : IOp} (h : iop op = some g) : IOk op g := by
  intro kd kd' a b k d hk
  cases op <;> simp only [iop, Option.some.injEq, reduceCtorEq] at h <;> subst h
  case add =>
    obtain rfl : kd = kd' := hk.resolve_left (by simp [isShift])
    refine .inr ⟨.int kd (wrapF kd (a + b)), fun s _ => by simp [evInt, evIntSame], ?_⟩
    cases a <;> cases b <;> first | exact intIn_eq _ _ _ | exact natIn_eq _ _ _
  case sub =>
    obtain rfl : kd = kd' := hk.resolve_left (by simp [isShift])
    refine .inr ⟨.int kd (wrapF kd (a - b)), fun s _ => by simp [evInt, evIntSame], ?_⟩
    cases a with
    | ofNat x => cases b with
      | ofNat y =>
        show (Bool.rec (motive := fun _ => FR) (intIn kd (.ofNat x - .ofNat y) k) (natIn kd (Nat.sub x y) k) (Nat.ble y x) : FR) = _
        cases hb : Nat.ble y x with
        | false => exact intIn_eq _ _ _
        | true =>
          have := Nat.le_of_ble_eq_true hb
          show natIn kd (x - y) k = _
          rw [natIn_eq]; congr 3
          simp only [Int.ofNat_eq_natCast]; omega
      | negSucc y => exact intIn_eq _ _ _
    | negSucc x => cases b <;> exact intIn_eq _ _ _
  case mul =>
    obtain rfl : kd = kd' := hk.resolve_left (by simp [isShift])
    refine .inr ⟨.int kd (wrapF kd (a * b)), fun s _ => by simp [evInt, evIntSame], ?_⟩
    cases a <;> cases b <;> first | exact intIn_eq _ _ _ | exact natIn_eq _ _ _
  case and =>
    obtain rfl : kd = kd' := hk.resolve_left (by simp [isShift])
    cases a with
    | ofNat x => cases b with
      | ofNat y =>
        cases hf : fits2 kd x y with
        | false => left; show (Bool.rec (motive := fun _ => FR) d _ (fits2 kd x y) : FR) = d; rw [hf]
        | true =>
          obtain ⟨f1, f2⟩ := fits2_eq hf
          refine .inr ⟨.int kd (.ofNat (x &&& y)), fun s hs => ?_, ?_⟩
          · simp only [evInt, evIntSame, if_true, f1, f2, Bool.and_self, ifNeed_true _ hs]; rfl
          · show (Bool.rec (motive := fun _ => FR) d _ (fits2 kd x y) : FR) = _; rw [hf]; rfl
      | negSucc y => exact .inl rfl
    | negSucc x => cases b <;> exact .inl rfl
  case or =>
    obtain rfl : kd = kd' := hk.resolve_left (by simp [isShift])
    cases a with
    | ofNat x => cases b with
      | ofNat y =>
        cases hf : fits2 kd x y with
        | false => left; show (Bool.rec (motive := fun _ => FR) d _ (fits2 kd x y) : FR) = d; rw [hf]
        | true =>
          obtain ⟨f1, f2⟩ := fits2_eq hf
          refine .inr ⟨.int kd (.ofNat (x ||| y)), fun s hs => ?_, ?_⟩
          · simp only [evInt, evIntSame, if_true, f1, f2, Bool.and_self, ifNeed_true _ hs]; rfl
          · show (Bool.rec (motive := fun _ => FR) d _ (fits2 kd x y) : FR) = _; rw [hf]; rfl
      | negSucc y => exact .inl rfl
    | negSucc x => cases b <;> exact .inl rfl
  case xor =>
    obtain rfl : kd = kd' := hk.resolve_left (by simp [isShift])
    cases a with
    | ofNat x => cases b with
      | ofNat y =>
        cases hf : fits2 kd x y with
        | false => left; show (Bool.rec (motive := fun _ => FR) d _ (fits2 kd x y) : FR) = d; rw [hf]
        | true =>
          obtain ⟨f1, f2⟩ := fits2_eq hf
          refine .inr ⟨.int kd (.ofNat (x ^^^ y)), fun s hs => ?_, ?_⟩
          · simp only [evInt, evIntSame, if_true, f1, f2, Bool.and_self, ifNeed_true _ hs]; rfl
          · show (Bool.rec (motive := fun _ => FR) d _ (fits2 kd x y) : FR) = _; rw [hf]; rfl
      | negSucc y => exact .inl rfl
    | negSucc x => cases b <;> exact .inl rfl
  case shl =>
    cases a with
    | ofNat x => cases b with
      | ofNat y =>
        refine .inr ⟨.int kd (wrapF kd (.ofNat x * ((2 ^ min y (bitsF kd) : Nat) : Int))), fun s hs => ?_, ?_⟩
        · have : decide ((0 : Int) ≤ .ofNat y) = true := decide_eq_true (Int.natCast_nonneg y)
          simp only [evInt, this, ifNeed_true _ hs]; rfl
        · show natIn kd (x * 2 ^ min y (bitsQ kd)) k = _
          rw [natIn_eq, bitsQ_eq]; rfl
      | negSucc y => exact .inl rfl
    | negSucc x => cases b <;> exact .inl rfl
  case shr =>
    cases a with
    | ofNat x => cases b with
      | ofNat y =>
        refine .inr ⟨.int kd ((Int.ofNat x).fdiv ((2 ^ min y (bitsF kd) : Nat) : Int)), fun s hs => ?_, ?_⟩
        · have : decide ((0 : Int) ≤ .ofNat y) = true := decide_eq_true (Int.natCast_nonneg y)
          simp only [evInt, this, ifNeed_true _ hs]; rfl
        · show k (.int kd (.ofNat (x / 2 ^ min y (bitsQ kd)))) = _
          rw [bitsQ_eq]; congr 2
          simp only [Int.ofNat_eq_natCast]
          rw [Int.fdiv_eq_ediv_of_nonneg _ (Int.natCast_nonneg _)]; rfl
      | negSucc y => exact .inl rfl
    | negSucc x => cases b <;> exact .inl rfl
  case eql =>
    obtain rfl : kd = kd' := hk.resolve_left (by simp [isShift])
    refine .inr ⟨.bool (decide (a = b)), fun s _ => by simp [evInt, evIntSame], ?_⟩
    cases a with
    | ofNat x => cases b with
      | ofNat y =>
        show boolK (Nat.beq x y) k = _
        rw [boolK_eq]; congr 2
        rw [Bool.eq_iff_iff]; simp only [Nat.beq_eq, decide_eq_true_eq, Int.ofNat_eq_natCast]; omega
      | negSucc y => rfl
    | negSucc x => cases b with
      | ofNat y => rfl
      | negSucc y =>
        show boolK (Nat.beq x y) k = _
        rw [boolK_eq]; congr 2
        rw [Bool.eq_iff_iff]; simp only [Nat.beq_eq, decide_eq_true_eq]; omega
  case neq =>
    obtain rfl : kd = kd' := hk.resolve_left (by simp [isShift])
    refine .inr ⟨.bool (!decide (a = b)), fun s _ => by simp [evInt, evIntSame], ?_⟩
    cases a with
    | ofNat x => cases b with
      | ofNat y =>
        show boolK (!Nat.beq x y) k = _
        rw [boolK_eq]; congr 3
        rw [Bool.eq_iff_iff]; simp only [Nat.beq_eq, decide_eq_true_eq, Int.ofNat_eq_natCast]; omega
      | negSucc y => rfl
    | negSucc x => cases b with
      | ofNat y => rfl
      | negSucc y =>
        show boolK (!Nat.beq x y) k = _
        rw [boolK_eq]; congr 3
        rw [Bool.eq_iff_iff]; simp only [Nat.beq_eq, decide_eq_true_eq]; omega
  case lss =>
    obtain rfl : kd = kd' := hk.resolve_left (by simp [isShift])
    refine .inr ⟨.bool (decide (a < b)), fun s _ => by simp [evInt, evIntSame], ?_⟩
    exact lss_eq a b k d kd
  case leq =>
    obtain rfl : kd = kd' := hk.resolve_left (by simp [isShift])
    refine .inr ⟨.bool (decide (a ≤ b)), fun s _ => by simp [evInt, evIntSame], ?_⟩
    exact leq_eq a b k d kd
  case gtr =>
    obtain rfl : kd = kd' := hk.resolve_left (by simp [isShift])
    refine .inr ⟨.bool (decide (a > b)), fun s _ => by simp [evInt, evIntSame], ?_⟩
    exact lss_eq b a k d kd
  case geq =>
    obtain rfl : kd = kd' := hk.resolve_left (by simp [isShift])
    refine .inr ⟨.bool (decide (a ≥ b)), fun s _ => by simp [evInt, evIntSame], ?_⟩
    exact leq_eq b a k d kd
where
  lss_eq (a b : Int) (k : Value → FR) (d : FR) (kd : IntKind) : oLss kd a b k d = k (.bool (decide (a < b))) := by
    cases a with
    | ofNat x => cases b with
      | ofNat y =>
        show boolK (Nat.ble (x + 1) y) k = _
        rw [boolK_eq]; congr 2
        rw [Bool.eq_iff_iff]; simp only [Nat.ble_eq, decide_eq_true_eq, Int.ofNat_eq_natCast]; omega
      | negSucc y =>
        show k _ = k _; first | rfl | (congr 2; symm; rw [decide_eq_false_iff_not]; simp only [Int.ofNat_eq_natCast]; omega)
    | negSucc x => cases b with
      | ofNat y =>
        show k _ = k _; first | rfl | (congr 2; symm; rw [decide_eq_true_eq]; simp only [Int.ofNat_eq_natCast]; omega)
      | negSucc y =>
        show boolK (Nat.ble (y + 1) x) k = _
        rw [boolK_eq]; congr 2
        rw [Bool.eq_iff_iff]; simp only [Nat.ble_eq, decide_eq_true_eq]; omega
  leq_eq (a b : Int) (k : Value → FR) (d : FR) (kd : IntKind) : oLeq kd a b k d = k (.bool (decide (a ≤ b))) := by
    cases a with
    | ofNat x => cases b with
      | ofNat y =>
        show boolK (Nat.ble x y) k = _
        rw [boolK_eq]; congr 2
        rw [Bool.eq_iff_iff]; simp only [Nat.ble_eq, decide_eq_true_eq, Int.ofNat_eq_natCast]; omega
      | negSucc y =>
        show k _ = k _; first | rfl | (congr 2; symm; rw [decide_eq_false_iff_not]; simp only [Int.ofNat_eq_natCast]; omega)
    | negSucc x => cases b with
      | ofNat y =>
        show k _ = k _; first | rfl | (congr 2; symm; rw [decide_eq_true_eq]; simp only [Int.ofNat_eq_natCast]; omega)
      | negSucc y =>
        show boolK (Nat.ble y x) k = _
        rw [boolK_eq]; congr 2
        rw [Bool.eq_iff_iff]; simp only [Nat.ble_eq, decide_eq_true_eq]; omega
end Go.Ev
