/- What was handed in as a list of calls (of chapter 4's statements): none, or a row. -/
import Derived.Test.YtddlejbcnjmfmaaWo
namespace Go.Proofs.Ytddlejbcnjmfmaa
open Go Go.Ev Go.RowKit Go.ChangeShapes Go.WideShapes Go.Deep
set_option maxRecDepth 100000
namespace WireLk
section
variable {H : Type} {enc : TypeId × Value → H} {W : World}
/-- One element: two whole numbers and a slice. -/
theorem part_cells {n : Nat} {cs : List Value} {x : DataW H × List MemPlace} (h : DataW.trod enc Try.prog W 0 (fun _ => true) true n 31 cs = some x) :
    ∃ (k m : Int) (a : Option Addr) (l c : Nat), cs = [.int .i64 k, .int .i64 m, .slice a l c] := by
  obtain ⟨y0, y1, y2, r, _, hl, h0, h1, h2⟩ := trod_struct3 (f0 := { name := "Kind", type := 3, offset := 0, embedded := false, tag := "", pkgPath := "", byteOffset := 0 }) (f1 := { name := "N", type := 3, offset := 1, embedded := false, tag := "", pkgPath := "", byteOffset := 8 })
    (f2 := { name := "B", type := 23, offset := 2, embedded := false, tag := "", pkgPath := "", byteOffset := 16 }) (show Try.prog.underlying 31 = some (.struct _) by kernel_rfl) h
  have e3 : Try.prog.cellsOf 31 = 3 := by kernel_rfl
  have c3 : Try.prog.cellsOf 3 = 1 := by kernel_rfl
  have c23 : Try.prog.cellsOf 23 = 1 := by kernel_rfl
  rw [e3] at hl
  match cs, hl with
  | [p, q, s], _ =>
    simp only [c3, c23] at h0 h1 h2
    obtain ⟨k, q1, _, _⟩ := DataW.trod_int (show Try.prog.underlying 3 = some (.int .i64) by kernel_rfl) h0
    obtain ⟨m, q2, _, _⟩ := DataW.trod_int (show Try.prog.underlying 3 = some (.int .i64) by kernel_rfl) h1
    have q3 := DataW.trod_slice (show Try.prog.underlying 23 = some (.slice 5) by kernel_rfl) h2
    simp only [List.drop_zero, List.take_succ_cons, List.take_zero, List.cons.injEq, and_true, List.drop_succ_cons] at q1 q2 q3
    subst q1 q2
    rcases q3 with ⟨q3, _⟩ | ⟨a, l, c, _, _, _, _, q3, _⟩
    · exact ⟨k, m, none, 0, 0, by rw [q3]⟩
    · exact ⟨k, m, some a, l, c, by rw [q3]⟩
theorem parts_open {b0 : Nat} {v : Value} {d : DataW H} {p : List MemPlace} (hval : Value.okWide Try.prog W .any b0 33 v) (hd : DataW.Trod enc Try.prog W 0 (fun _ => true) true 33 v d p) : PartsArg W v := by
  have e3 : Try.prog.cellsOf 31 = 3 := by kernel_rfl
  rcases row_any (e := 31) (show Try.prog.underlying 33 = some (.slice 31) by kernel_rfl) (by rw [e3]; omega) (fun n cs x h c hc => by
    obtain ⟨k, m, a, l, c', rfl⟩ := part_cells h
    simp only [List.mem_cons, List.not_mem_nil, or_false] at hc
    rcases hc with rfl | rfl | rfl <;> rfl) hval hd with rfl | ⟨a, len, cap, Z, l, rfl, hr, hx⟩
  · exact .inl rfl
  · rw [e3] at hr hx
    refine .inr ⟨a, len, cap, Z, l, rfl, hr, fun i hi => ?_⟩
    obtain ⟨n, x, h⟩ := hx i hi
    obtain ⟨k, m, a', l', c', e⟩ := part_cells h
    refine ⟨m, ?_⟩
    have := congrArg (fun z : List Value => z[1]?) e
    simpa using this
end
end WireLk
end Go.Proofs.Ytddlejbcnjmfmaa
