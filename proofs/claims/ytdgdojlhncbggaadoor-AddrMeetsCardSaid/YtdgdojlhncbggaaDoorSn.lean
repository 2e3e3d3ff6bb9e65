/- P1.1: what meets of three hangs on no order. -/
import Derived.Test.YtdgdojlhncbggaaDoorSc
namespace Go.Proofs.YtdgdojlhncbggaaDoor
open Go Go.Ev Go.RowKit
set_option maxRecDepth 100000
def meetsT (a : Int) (b : Int) (c : Int) (n : Int) (m : Int) (k : Int) (pa : Int) (pn : Int) (qa : Int) (qn : Int) (ra : Int) (rn : Int) (ua : Int) (un : Int) (xa : Int) (xn : Int) (va : Int) (vn : Int) (ya : Int) (yn : Int) : PT := PT.need (xa == ya && (xn == yn && true)) true (PT.need (xa == ya && (xn == yn && true)) true (PT.need (xa == ya && (xn == yn && true)) true (PT.need (xa == ya && (xn == yn && true)) true (PT.need (inU pa && inU ra) true (PT.need (xa == ya && (xn == yn && true)) true (PT.need (inU xa && inU (meetA pa pn ra rn)) true (PT.need (xa == ya && (xn == yn && true)) true (PT.need (coversB xa xn (meetA pa pn ra rn) (meetN pa pn ra rn)) true (PT.need (coversB xa xn (meetA pa pn ra rn) (meetN pa pn ra rn)) true (PT.need (coversB xa xn (meetA pa pn ra rn) (meetN pa pn ra rn)) true (PT.need (inU pa && inU pa) true (PT.need (coversB xa xn (meetA pa pn ra rn) (meetN pa pn ra rn)) true (PT.need (coversB xa xn (meetA pa pn ra rn) (meetN pa pn ra rn)) true (PT.need (coversB xa xn (meetA pa pn ra rn) (meetN pa pn ra rn)) true (PT.need (meetA pa pn pa pn == pa && (meetN pa pn pa pn == pn && true)) true (PT.need (meetA pa pn pa pn == pa && (meetN pa pn pa pn == pn && true)) true (PT.need (meetA pa pn pa pn == pa && (meetN pa pn pa pn == pn && true)) true (PT.need (inU pa && inU 0) true (PT.need (meetA pa pn pa pn == pa && (meetN pa pn pa pn == pn && true)) true (PT.need (meetA pa pn pa pn == pa && (meetN pa pn pa pn == pn && true)) true (PT.need (meetA pa pn pa pn == pa && (meetN pa pn pa pn == pn && true)) true (PT.need (meetA pa pn 0 0 == 0 && (meetN pa pn 0 0 == 0 && true)) true (PT.need (meetA pa pn 0 0 == 0 && (meetN pa pn 0 0 == 0 && true)) true (PT.leaf (Value.bool true)))))))))))))))))))))))))

def meetsC (a b c n m k pa pn qa qn ra rn ua un xa xn va vn ya yn : Int) : List Prop := [meetV2 pa pn va vn = pfx ya yn, (inU pa && inU va) = true, meetV2 qa qn ra rn = pfx va vn, (inU qa && inU ra) = true, meetV2 ua un ra rn = pfx xa xn, (inU ua && inU ra) = true, meetV2 pa pn qa qn = pfx ua un, (inU pa && inU qa) = true,
  anyV2 c k = pfx ra rn, inU c = true, anyV2 b m = pfx qa qn, inU b = true, anyV2 a n = pfx pa pn, inU a = true]
theorem meetsT_fits (a b c n m k pa pn qa qn ra rn ua un xa xn va vn ya yn : Int) : (meetsT a b c n m k pa pn qa qn ra rn ua un xa xn va vn ya yn).FitsFrom (fun π => evRun Tryd.prog E3 60 9 (oArgs a b c n m k).toList Tryd.prog.globals.size (some (meetsPre pa pn qa qn ra rn ua un xa xn va vn ya yn ++ π))) (meetsC a b c n m k pa pn qa qn ra rn ua un xa xn va vn ya yn) := by unfold PT.FitsFrom; kernel_rfl
theorem eqB {x y u v : Nat} (h : x = y ∧ u = v) : ((x : Int) == (y : Int) && ((u : Int) == (v : Int) && true)) = true := by
  obtain ⟨rfl, rfl⟩ := h; simp
theorem meet_self {a n : Nat} (h : Pf a n) : fl a (mk' a n a n) = a ∧ mk' a n a n = n :=
  Cov.antisymm (meet_pf h h) ((cov_meet h h).1 (.refl (meet_pf h h))).1 ((cov_meet h h).2 ⟨.refl h, .refl h⟩)
theorem pf_zero : Pf 0 0 := ⟨by decide, by decide, fl_zero (by decide)⟩
theorem cov_zero {a n : Nat} (h : Pf a n) : Cov 0 0 a n := ⟨Nat.zero_le _, fl_zero h.1⟩
theorem meet_zero {a n : Nat} (h : Pf a n) : fl a (mk' a n 0 0) = 0 ∧ mk' a n 0 0 = 0 :=
  Cov.antisymm (meet_pf h pf_zero) ((cov_meet h pf_zero).1 (.refl (meet_pf h pf_zero))).2 ((cov_meet h pf_zero).2 ⟨cov_zero h, .refl pf_zero⟩)
theorem meets_val (a b c n m k : Int) {pa pn qa qn ra rn ua un xa xn va vn ya yn : Nat} (hp : Pf pa pn) (hq : Pf qa qn) (hr : Pf ra rn) (hx : Pf xa xn) (hy : Pf ya yn)
    (cx : ∀ z k, Cov z k xa xn ↔ Cov z k ua un ∧ Cov z k ra rn) (cu : ∀ z k, Cov z k ua un ↔ Cov z k pa pn ∧ Cov z k qa qn) (cv : ∀ z k, Cov z k va vn ↔ Cov z k qa qn ∧ Cov z k ra rn) (cy : ∀ z k, Cov z k ya yn ↔ Cov z k pa pn ∧ Cov z k va vn) :
    (meetsT a b c n m k pa pn qa qn ra rn ua un xa xn va vn ya yn).val = some (.bool true) := by
  have xr := (cx xa xn).1 (.refl hx)
  have xu := (cu xa xn).1 xr.1
  have yr := (cy ya yn).1 (.refl hy)
  have yv := (cv ya yn).1 yr.2
  have e1 := eqB (Cov.antisymm hx ((cy xa xn).2 ⟨xu.1, (cv xa xn).2 ⟨xu.2, xr.2⟩⟩) ((cx ya yn).2 ⟨(cu ya yn).2 ⟨yr.1, yv.1⟩, yv.2⟩))
  obtain ⟨m1, m2⟩ := meet_eq hp hr
  obtain ⟨m3, m4⟩ := meet_eq hp hp
  obtain ⟨m5, m6⟩ := meet_eq hp pf_zero
  have e2 : coversB (xa : Int) xn (meetA (pa : Int) pn ra rn) (meetN (pa : Int) pn ra rn) = true := by
    rw [m1, m2]; exact (covers_iff hx (meet_pf hp hr)).2 ((cov_meet hp hr).2 ⟨xu.1, xr.2⟩)
  have e3 : (meetA (pa : Int) pn pa pn == (pa : Int) && (meetN (pa : Int) pn pa pn == (pn : Int) && true)) = true := by
    rw [m3, m4]; exact eqB (meet_self hp)
  have e4 : (meetA (pa : Int) pn 0 0 == 0 && (meetN (pa : Int) pn 0 0 == 0 && true)) = true := by
    have m5' : meetN (pa : Int) pn 0 0 = (mk' pa pn 0 0 : Int) := m5
    have m6' : meetA (pa : Int) pn 0 0 = (fl pa (mk' pa pn 0 0) : Int) := m6
    rw [m5', m6', (meet_zero hp).1, (meet_zero hp).2]; rfl
  have e5 : inU (meetA (pa : Int) pn ra rn) = true := by rw [m2]; exact pf_in (meet_pf hp hr)
  have e6 : inU 0 = true := by decide
  simp only [meetsT, PT.val_test, PT.val_need, PT.val_reck, PT.val_leaf, pf_in hp, pf_in hr, pf_in hx, e1, e2, e3, e4, e5, e6, Bool.and_self, if_true]
theorem meets_walk (a b c n m k : Int) (wa : (Lit.int .u32 a).wf = true) (wb : (Lit.int .u32 b).wf = true) (wc : (Lit.int .u32 c).wf = true) (_ : (Lit.int .i64 n).wf = true) (_ : (Lit.int .i64 m).wf = true) (_ : (Lit.int .i64 k).wf = true) (W : World) :
    Calls Tryd.prog 9 (oArgs a b c n m k) W fun e W' => e = .returned (.bool true) ∧ Below W.heap.size W W' := by
  have ha := inU_wf wa
  have hb := inU_wf wb
  have hc := inU_wf wc
  obtain ⟨pa, pn, e1, hp, _⟩ := any_pf a n ha
  obtain ⟨qa, qn, e2, hq, _⟩ := any_pf b m hb
  obtain ⟨ra, rn, e3, hr, _⟩ := any_pf c k hc
  have hu := meet_pf hp hq
  have hv := meet_pf hq hr
  exact PT.callsFrom E3_sound good Tryd.func9 rfl (meetsT_fits a b c n m k pa pn qa qn ra rn _ _ _ _ _ _ _ _)
    (by simp only [meetsC, List.forall_mem_cons]; exact ⟨meet2_pf hp hv, by rw [pf_in hp, pf_in hv]; rfl, meet2_pf hq hr, by rw [pf_in hq, pf_in hr]; rfl, meet2_pf hu hr, by rw [pf_in hu, pf_in hr]; rfl, meet2_pf hp hq, by rw [pf_in hp, pf_in hq]; rfl, e3, hc, e2, hb, e1, ha, by simp⟩)
    (meets_val a b c n m k hp hq hr (meet_pf hu hr) (meet_pf hp hv) (fun _ _ => cov_meet hu hr) (fun _ _ => cov_meet hp hq) (fun _ _ => cov_meet hq hr) (fun _ _ => cov_meet hp hv)) rfl rfl W
end Go.Proofs.YtdgdojlhncbggaaDoor
