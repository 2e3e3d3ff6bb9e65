/- P1.1: prefixes have one order. -/
import Derived.Test.YtdgdojlhncbggaaDoorSc
namespace Go.Proofs.YtdgdojlhncbggaaDoor
open Go Go.Ev Go.RowKit
set_option maxRecDepth 100000
def orderT (a : Int) (b : Int) (c : Int) (n : Int) (m : Int) (k : Int) (pa : Int) (pn : Int) (qa : Int) (qn : Int) (ra : Int) (rn : Int) : PT := PT.test (pa == qa && (pn == qn && true)) (PT.need (pa == qa && (pn == qn && true)) true (PT.need (pa == qa && (pn == qn && true)) true (PT.need (inU pa && inU qa) true (PT.need (pa == qa && (pn == qn && true)) true (PT.need (lessB pa pn qa qn) false (PT.need (lessB pa pn qa qn) false (PT.need (lessB pa pn qa qn) false (PT.need (inU qa && inU pa) true (PT.need (pa == qa && (pn == qn && true)) true (PT.need (lessB pa pn qa qn) false (PT.need (pa == qa && (pn == qn && true)) true (PT.need (lessB qa qn pa pn) false (PT.need (lessB qa qn pa pn) false (PT.need (lessB qa qn pa pn) false (PT.need (lessB qa qn pa pn) false (PT.need (!(pa == qa && (pn == qn && true))) false (PT.need (!(pa == qa && (pn == qn && true))) false (PT.need (!(pa == qa && (pn == qn && true))) false (PT.need (!(pa == qa && (pn == qn && true))) false (PT.need (!(pa == qa && (pn == qn && true))) false (PT.need (!(pa == qa && (pn == qn && true))) false (PT.need (!(pa == qa && (pn == qn && true))) false (PT.need (lessB qa qn pa pn) false (PT.need (!(pa == qa && (pn == qn && true))) false (PT.need (lessB qa qn pa pn) false (PT.reck 0 (PT.need (inU pa && inU qa) true (PT.need (lessB pa pn qa qn) false (PT.need (lessB pa pn qa qn) false (PT.need (lessB pa pn qa qn) false (PT.need (lessB pa pn qa qn) false (PT.reck 5 (PT.need (inU pa && inU qa) true (PT.need (coversB pa pn qa qn) true (PT.need (coversB pa pn qa qn) true (PT.need (coversB pa pn qa qn) true (PT.need (coversB pa pn qa qn) true (PT.need (!(pa == qa && (pn == qn && true))) false (PT.need (!(pa == qa && (pn == qn && true))) false (PT.need (!(pa == qa && (pn == qn && true))) false (PT.need (!(pa == qa && (pn == qn && true))) false (PT.need (!(pa == qa && (pn == qn && true))) false (PT.reck 0 (PT.need (inU pa && inU ra) true (PT.test (coversB pa pn ra rn) (PT.need (coversB pa pn ra rn) true (PT.need (coversB pa pn ra rn) true (PT.need (inU pa && inU qa) true (PT.need (coversB pa pn ra rn) true (PT.need (lessB pa pn qa qn) false (PT.need (lessB pa pn qa qn) false (PT.need (lessB pa pn qa qn) false (PT.need (lessB pa pn qa qn) false (PT.reck 6 (PT.leaf (Value.bool true))))))))))) (PT.need (coversB pa pn ra rn) false (PT.need (coversB pa pn ra rn) false (PT.need (coversB pa pn ra rn) false (PT.reck 10 (PT.leaf (Value.bool true))))))))))))))))))))))))))))))))))))))))))))))))))) (PT.need (pa == qa && (pn == qn && true)) false (PT.need (pa == qa && (pn == qn && true)) false (PT.need (pa == qa && (pn == qn && true)) false (PT.need (pa == qa && (pn == qn && true)) false (PT.need (pa == qa && (pn == qn && true)) false (PT.reck 3 (PT.need (!(pa == qa && (pn == qn && true))) true (PT.need (!(pa == qa && (pn == qn && true))) true (PT.need (!(pa == qa && (pn == qn && true))) true (PT.need (!(pa == qa && (pn == qn && true))) true (PT.need (!(pa == qa && (pn == qn && true))) true (PT.need (inU pa && inU qa) true (PT.need (!(pa == qa && (pn == qn && true))) true (PT.need (inU qa && inU pa) true (PT.need (!(pa == qa && (pn == qn && true))) true (PT.reck 0 (PT.need (!(pa == qa && (pn == qn && true))) true (PT.reck 0 (PT.need (lessB pa pn qa qn == lessB qa qn pa pn) false (PT.need (inU pa && inU qa) true (PT.test (lessB pa pn qa qn) (PT.need (lessB pa pn qa qn) true (PT.need (lessB pa pn qa qn) true (PT.need (inU qa && inU ra) true (PT.need (lessB pa pn qa qn) true (PT.test (lessB qa qn ra rn) (PT.need (lessB qa qn ra rn) true (PT.need (lessB qa qn ra rn) true (PT.need (inU pa && inU ra) true (PT.need (lessB qa qn ra rn) true (PT.need (lessB qa qn ra rn) true (PT.need (!lessB pa pn ra rn) false (PT.need (inU pa && inU qa) true (PT.test (coversB pa pn qa qn) (PT.need (coversB pa pn qa qn) true (PT.need (coversB pa pn qa qn) true (PT.need (coversB pa pn qa qn) true (PT.need (!(pa == qa && (pn == qn && true))) true (PT.need (!(pa == qa && (pn == qn && true))) true (PT.need (!(pa == qa && (pn == qn && true))) true (PT.need (inU pa && inU qa) true (PT.need (!(pa == qa && (pn == qn && true))) true (PT.need (!(pa == qa && (pn == qn && true))) true (PT.need (!lessB pa pn qa qn) false (PT.need (inU pa && inU ra) true (PT.test (coversB pa pn ra rn) (PT.need (coversB pa pn ra rn) true (PT.need (coversB pa pn ra rn) true (PT.need (inU pa && inU qa) true (PT.need (coversB pa pn ra rn) true (PT.need (lessB pa pn qa qn) true (PT.need (lessB pa pn qa qn) true (PT.need (lessB pa pn qa qn) true (PT.need (inU qa && inU ra) true (PT.need (lessB pa pn qa qn) true (PT.need (lessB qa qn ra rn) true (PT.need (lessB qa qn ra rn) true (PT.need (lessB qa qn ra rn) true (PT.need (inU pa && inU qa) true (PT.need (lessB qa qn ra rn) true (PT.need (lessB qa qn ra rn) true (PT.need (!!coversB pa pn qa qn) true (PT.need (!!coversB pa pn qa qn) true (PT.leaf (Value.bool true))))))))))))))))))) (PT.need (coversB pa pn ra rn) false (PT.need (coversB pa pn ra rn) false (PT.need (coversB pa pn ra rn) false (PT.reck 10 (PT.leaf (Value.bool true)))))))))))))))))) (PT.need (coversB pa pn qa qn) false (PT.need (coversB pa pn qa qn) false (PT.need (coversB pa pn qa qn) false (PT.reck 5 (PT.need (inU pa && inU ra) true (PT.need (coversB pa pn ra rn) false (PT.need (coversB pa pn ra rn) false (PT.need (coversB pa pn ra rn) false (PT.need (coversB pa pn ra rn) false (PT.reck 10 (PT.leaf (Value.bool true)))))))))))))))))))) (PT.need (lessB qa qn ra rn) false (PT.need (lessB qa qn ra rn) false (PT.need (lessB qa qn ra rn) false (PT.need (lessB qa qn ra rn) false (PT.reck 0 (PT.need (inU pa && inU qa) true (PT.test (coversB pa pn qa qn) (PT.need (coversB pa pn qa qn) true (PT.need (coversB pa pn qa qn) true (PT.need (coversB pa pn qa qn) true (PT.need (!(pa == qa && (pn == qn && true))) true (PT.need (!(pa == qa && (pn == qn && true))) true (PT.need (!(pa == qa && (pn == qn && true))) true (PT.need (inU pa && inU qa) true (PT.need (!(pa == qa && (pn == qn && true))) true (PT.need (!(pa == qa && (pn == qn && true))) true (PT.need (!lessB pa pn qa qn) false (PT.need (inU pa && inU ra) true (PT.test (coversB pa pn ra rn) (PT.need (coversB pa pn ra rn) true (PT.need (coversB pa pn ra rn) true (PT.need (inU pa && inU qa) true (PT.need (coversB pa pn ra rn) true (PT.need (lessB pa pn qa qn) true (PT.need (lessB pa pn qa qn) true (PT.need (lessB pa pn qa qn) true (PT.need (inU qa && inU ra) true (PT.need (lessB pa pn qa qn) true (PT.need (lessB qa qn ra rn) false (PT.need (lessB qa qn ra rn) false (PT.need (lessB qa qn ra rn) false (PT.need (lessB qa qn ra rn) false (PT.need (lessB qa qn ra rn) false (PT.reck 1 (PT.leaf (Value.bool true))))))))))))))))) (PT.need (coversB pa pn ra rn) false (PT.need (coversB pa pn ra rn) false (PT.need (coversB pa pn ra rn) false (PT.reck 10 (PT.leaf (Value.bool true)))))))))))))))))) (PT.need (coversB pa pn qa qn) false (PT.need (coversB pa pn qa qn) false (PT.need (coversB pa pn qa qn) false (PT.reck 5 (PT.need (inU pa && inU ra) true (PT.test (coversB pa pn ra rn) (PT.need (coversB pa pn ra rn) true (PT.need (coversB pa pn ra rn) true (PT.need (inU pa && inU qa) true (PT.need (coversB pa pn ra rn) true (PT.need (lessB pa pn qa qn) true (PT.need (lessB pa pn qa qn) true (PT.need (lessB pa pn qa qn) true (PT.need (inU qa && inU ra) true (PT.need (lessB pa pn qa qn) true (PT.need (lessB qa qn ra rn) false (PT.need (lessB qa qn ra rn) false (PT.need (lessB qa qn ra rn) false (PT.need (lessB qa qn ra rn) false (PT.need (lessB qa qn ra rn) false (PT.reck 1 (PT.leaf (Value.bool true))))))))))))))))) (PT.need (coversB pa pn ra rn) false (PT.need (coversB pa pn ra rn) false (PT.need (coversB pa pn ra rn) false (PT.reck 10 (PT.leaf (Value.bool true)))))))))))))))))))))))) (PT.need (lessB pa pn qa qn) false (PT.need (lessB pa pn qa qn) false (PT.need (lessB pa pn qa qn) false (PT.reck 5 (PT.need (inU pa && inU qa) true (PT.need (coversB pa pn qa qn) false (PT.need (coversB pa pn qa qn) false (PT.need (coversB pa pn qa qn) false (PT.need (coversB pa pn qa qn) false (PT.reck 5 (PT.need (inU pa && inU ra) true (PT.test (coversB pa pn ra rn) (PT.need (coversB pa pn ra rn) true (PT.need (coversB pa pn ra rn) true (PT.need (inU pa && inU qa) true (PT.need (coversB pa pn ra rn) true (PT.need (lessB pa pn qa qn) false (PT.need (lessB pa pn qa qn) false (PT.need (lessB pa pn qa qn) false (PT.need (lessB pa pn qa qn) false (PT.reck 6 (PT.leaf (Value.bool true))))))))))) (PT.need (coversB pa pn ra rn) false (PT.need (coversB pa pn ra rn) false (PT.need (coversB pa pn ra rn) false (PT.reck 10 (PT.leaf (Value.bool true)))))))))))))))))))))))))))))))))))))))

def orderC (a b c n m k pa pn qa qn ra rn : Int) : List Prop := [anyV2 c k = pfx ra rn, inU c = true, anyV2 b m = pfx qa qn, inU b = true, anyV2 a n = pfx pa pn, inU a = true]
theorem orderT_fits (a b c n m k pa pn qa qn ra rn : Int) : (orderT a b c n m k pa pn qa qn ra rn).FitsFrom (fun π => evRun Tryd.prog E3 60 7 (oArgs a b c n m k).toList Tryd.prog.globals.size (some (orderPre pa pn qa qn ra rn ++ π))) (orderC a b c n m k pa pn qa qn ra rn) := by unfold PT.FitsFrom; kernel_rfl
theorem order_val (a b c n m k : Int) {pa pn qa qn ra rn : Nat} (hp : Pf pa pn) (hq : Pf qa qn) (hr : Pf ra rn) : (orderT a b c n m k pa pn qa qn ra rn).val = some (.bool true) := by
  have up := pf_in hp
  have uq := pf_in hq
  have ur := pf_in hr
  have l1 := less_iff hp hq
  have l2 := less_iff hq hp
  have l3 := less_iff hq hr
  have l4 := less_iff hp hr
  have c1 := covers_iff hp hq
  have c2 := covers_iff hp hr
  have e : ((pa : Int) == (qa : Int) && ((pn : Int) == (qn : Int) && true)) = true ↔ pa = qa ∧ pn = qn := by simp; omega
  generalize hE : ((pa : Int) == (qa : Int) && ((pn : Int) == (qn : Int) && true)) = E at e
  have f1 : Cov pa pn qa qn → ¬ (pa = qa ∧ pn = qn) → pa < qa ∨ pa = qa ∧ pn < qn := by
    rintro ⟨h1, h2⟩ hne
    have := fl_le qa pn
    omega
  have f2 : Cov pa pn ra rn → (pa < qa ∨ pa = qa ∧ pn < qn) → (qa < ra ∨ qa = ra ∧ qn < rn) → Cov pa pn qa qn := by
    rintro ⟨h1, h2⟩ h3 h4
    have g1 : fl pa pn ≤ fl qa pn := fl_mono (by omega)
    have g2 : fl qa pn ≤ fl ra pn := fl_mono (by omega)
    have g3 := hp.2.2
    have g4 : fl qa pn = pa := by omega
    refine ⟨?_, g4⟩
    rcases Nat.lt_or_ge qn pn with h | h
    · exfalso
      have g5 : fl (fl qa pn) qn = fl qa qn := fl_fl (by omega)
      have g6 := hq.2.2
      have g7 := fl_le (fl qa pn) qn
      have : fl qa pn ≤ qa := fl_le _ _
      omega
    · exact h
  generalize hL1 : lessB (pa : Int) pn qa qn = L1 at l1 l2 l3 l4 c1 c2
  generalize hL2 : lessB (qa : Int) qn pa pn = L2 at l1 l2 l3 l4 c1 c2
  generalize hL3 : lessB (qa : Int) qn ra rn = L3 at l1 l2 l3 l4 c1 c2
  generalize hL4 : lessB (pa : Int) pn ra rn = L4 at l1 l2 l3 l4 c1 c2
  generalize hC1 : coversB (pa : Int) pn qa qn = C1 at l1 l2 l3 l4 c1 c2
  generalize hC2 : coversB (pa : Int) pn ra rn = C2 at l1 l2 l3 l4 c1 c2
  have k1 : E = true → L1 = false ∧ L2 = false := by
    intro h
    have := e.1 h
    constructor
    · cases L1 with
      | false => rfl
      | true => have := l1.1 rfl; omega
    · cases L2 with
      | false => rfl
      | true => have := l2.1 rfl; omega
  have k2 : E = false → L1 = !L2 := by
    intro h
    have hne : ¬ (pa = qa ∧ pn = qn) := fun h' => by rw [e.2 h'] at h; cases h
    cases L1 <;> cases L2 <;> simp at l1 l2 ⊢ <;> omega
  have k3 : L1 = true → L3 = true → L4 = true := fun h1 h3 => l4.2 (by have := l1.1 h1; have := l3.1 h3; omega)
  have k4 : C1 = true → E = false → L1 = true := fun h1 h2 => l1.2 (f1 (c1.1 h1) fun h' => by rw [e.2 h'] at h2; cases h2)
  have k5 : C2 = true → L1 = true → L3 = true → C1 = true := fun h1 h2 h3 => c1.2 (f2 (c2.1 h1) (l1.1 h2) (l3.1 h3))
  have k6 : E = true → C1 = true := fun h => c1.2 (by obtain ⟨h1, h2⟩ := e.1 h; subst h1; subst h2; exact .refl hp)
  clear l1 l2 l3 l4 c1 c2 e f1 f2 
  simp only [orderT, PT.val_test, PT.val_need, PT.val_reck, PT.val_leaf, up, uq, ur, hE, hL1, hL2, hL3, hL4, hC1, hC2]
  clear hE hL1 hL2 hL3 hL4 hC1 hC2
  cases E <;> cases L1 <;> cases L2 <;> cases L3 <;> cases L4 <;> cases C1 <;> cases C2 <;> simp at k1 k2 k3 k4 k5 k6 ⊢
theorem order_walk (a b c n m k : Int) (wa : (Lit.int .u32 a).wf = true) (wb : (Lit.int .u32 b).wf = true) (wc : (Lit.int .u32 c).wf = true) (_ : (Lit.int .i64 n).wf = true) (_ : (Lit.int .i64 m).wf = true) (_ : (Lit.int .i64 k).wf = true) (W : World) :
    Calls Tryd.prog 7 (oArgs a b c n m k) W fun e W' => e = .returned (.bool true) ∧ Below W.heap.size W W' := by
  have ha := inU_wf wa
  have hb := inU_wf wb
  have hc := inU_wf wc
  obtain ⟨pa, pn, e1, hp, _⟩ := any_pf a n ha
  obtain ⟨qa, qn, e2, hq, _⟩ := any_pf b m hb
  obtain ⟨ra, rn, e3, hr, _⟩ := any_pf c k hc
  exact PT.callsFrom E3_sound good Tryd.func7 rfl (orderT_fits a b c n m k pa pn qa qn ra rn) (by simp only [orderC, List.forall_mem_cons]; exact ⟨e3, hc, e2, hb, e1, ha, by simp⟩) (order_val a b c n m k hp hq hr) rfl rfl W
end Go.Proofs.YtdgdojlhncbggaaDoor
