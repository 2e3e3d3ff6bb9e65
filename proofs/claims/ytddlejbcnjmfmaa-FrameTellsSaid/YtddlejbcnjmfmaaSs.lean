/- P5.1: any bytes are cut as the document says: 'split' answers true for every row. -/
import Derived.Test.YtddlejbcnjmfmaaSq
namespace Go.Proofs.Ytddlejbcnjmfmaa
open Go Go.Ev Go.RowKit
set_option maxRecDepth 100000
namespace Split
theorem row_walk (W : World) {ad : Addr} {len cap : Nat} {zs : List Int} {l : Ev.Loc} (hlen : zs.length = len) (hcap : len ≤ cap) (hwf : ∀ n ∈ zs, (Lit.int .u8 n).wf = true) (hfit : RowFits W (zs.map (Value.int .u8)) l)
    (ha : ad = ⟨l.blk, l.shift, none⟩) (hr : l.room = l.shift + cap) (hs : l.size = len) :
    Calls Try.prog 35 ⟨[.slice (some ad) len cap]⟩ W fun e W' => e = .returned (.bool true) ∧ Below W.heap.size W W' := by
  by_cases h19 : len < 19
  · refine calls_s (r_sh (zs.map (Value.int .u8)) len) ?_ (by rw [beq_bytes]) W hfit hcap ha hr hs
    have : decide (((len : Nat) : Int) < 19) = true := decide_eq_true (by omega)
    simp [this]
  have hlt : decide (((len : Nat) : Int) < 19) = false := decide_eq_false (by omega)
  have inn : ∀ i : Int, 0 ≤ i → i < 19 → inC len i := fun i h1 h2 => decide_eq_true ⟨h1, by omega⟩
  obtain ⟨y, hyz, hy⟩ : ∃ y : Nat → Nat, (fun i => zs.getD i 0) = (fun i => ((y i : Nat) : Int)) ∧ ∀ i, y i < 256 := by
    have each : ∀ i, 0 ≤ zs.getD i 0 ∧ zs.getD i 0 < 256 := by
      intro i
      by_cases hi : i < zs.length
      · have hm : zs.getD i 0 ∈ zs := by
          rw [List.getD_eq_getElem?_getD, List.getElem?_eq_getElem hi]; exact List.getElem_mem hi
        have := hwf _ hm
        simp [Lit.wf, IntKind.min, IntKind.max, IntKind.signed, IntKind.bits] at this
        simp only [List.getD_eq_getElem?_getD] at *
        omega
      · rw [List.getD_eq_getElem?_getD, List.getElem?_eq_none (by omega)]; simp
    refine ⟨fun i => (zs.getD i 0).toNat, funext fun i => ?_, fun i => ?_⟩
    · have := each i
      show zs.getD i 0 = (((zs.getD i 0).toNat : Nat) : Int)
      omega
    · have := each i
      show (zs.getD i 0).toNat < 256
      omega
  have part : ∀ L, L ≤ len → zs.map (Value.int .u8) = mkI .u8 (fun i => ((y i : Nat) : Int)) L ++ (zs.drop L).map (Value.int .u8) := by
    intro L hL
    rw [← hyz]; exact mkI_of zs L (by omega)
  have sz : ∀ {cells : List Value}, zs.map (Value.int .u8) = cells → (rowObj cells).cells.size = len := by
    intro cells h
    subst h
    simp [rowObj, hlen]
  have capM' : ∀ {cells : List Value}, zs.map (Value.int .u8) = cells → capM cells := by
    intro cells h
    unfold capM
    rw [sz h]
    exact decide_eq_true ⟨by omega, by omega⟩
  by_cases h0 : y 0 = 255
  case neg =>
    have e : zs.map (Value.int .u8) = [.int .u8 ((y 0 : Nat) : Int)] ++ (zs.drop 1).map (Value.int .u8) := by
      rw [part 1 (by omega)]
      show [Value.int .u8 ((y 0 : Nat) : Int)] ++ _ = _
      simp []
    have hfit' := hfit
    rw [e] at hfit'
    refine calls_s (r_m0 ((y 0 : Nat) : Int) ((zs.drop 1).map (Value.int .u8)) len) ?_ (by rw [beq_bytes]) W hfit' hcap ha hr hs
    have a0 : decide (((y 0 : Nat) : Int) = 255) = false := decide_eq_false (by omega)
    have a1 := capM' e
    simp only [List.forall_mem_cons, a0, hlt, a1]
    simp [inn]
  by_cases h1 : y 1 = 255
  case neg =>
    have e : zs.map (Value.int .u8) = [.int .u8 255, .int .u8 ((y 1 : Nat) : Int)] ++ (zs.drop 2).map (Value.int .u8) := by
      rw [part 2 (by omega)]
      show [Value.int .u8 ((y 0 : Nat) : Int), Value.int .u8 ((y 1 : Nat) : Int)] ++ _ = _
      simp [h0]
    have hfit' := hfit
    rw [e] at hfit'
    refine calls_s (r_m1 ((y 1 : Nat) : Int) ((zs.drop 2).map (Value.int .u8)) len) ?_ (by rw [beq_bytes]) W hfit' hcap ha hr hs
    have a0 : decide (((y 1 : Nat) : Int) = 255) = false := decide_eq_false (by omega)
    have a1 := capM' e
    simp only [List.forall_mem_cons, a0, hlt, a1]
    simp [inn]
  by_cases h2 : y 2 = 255
  case neg =>
    have e : zs.map (Value.int .u8) = [.int .u8 255, .int .u8 255, .int .u8 ((y 2 : Nat) : Int)] ++ (zs.drop 3).map (Value.int .u8) := by
      rw [part 3 (by omega)]
      show [Value.int .u8 ((y 0 : Nat) : Int), Value.int .u8 ((y 1 : Nat) : Int), Value.int .u8 ((y 2 : Nat) : Int)] ++ _ = _
      simp [h0, h1]
    have hfit' := hfit
    rw [e] at hfit'
    refine calls_s (r_m2 ((y 2 : Nat) : Int) ((zs.drop 3).map (Value.int .u8)) len) ?_ (by rw [beq_bytes]) W hfit' hcap ha hr hs
    have a0 : decide (((y 2 : Nat) : Int) = 255) = false := decide_eq_false (by omega)
    have a1 := capM' e
    simp only [List.forall_mem_cons, a0, hlt, a1]
    simp [inn]
  by_cases h3 : y 3 = 255
  case neg =>
    have e : zs.map (Value.int .u8) = [.int .u8 255, .int .u8 255, .int .u8 255, .int .u8 ((y 3 : Nat) : Int)] ++ (zs.drop 4).map (Value.int .u8) := by
      rw [part 4 (by omega)]
      show [Value.int .u8 ((y 0 : Nat) : Int), Value.int .u8 ((y 1 : Nat) : Int), Value.int .u8 ((y 2 : Nat) : Int), Value.int .u8 ((y 3 : Nat) : Int)] ++ _ = _
      simp [h0, h1, h2]
    have hfit' := hfit
    rw [e] at hfit'
    refine calls_s (r_m3 ((y 3 : Nat) : Int) ((zs.drop 4).map (Value.int .u8)) len) ?_ (by rw [beq_bytes]) W hfit' hcap ha hr hs
    have a0 : decide (((y 3 : Nat) : Int) = 255) = false := decide_eq_false (by omega)
    have a1 := capM' e
    simp only [List.forall_mem_cons, a0, hlt, a1]
    simp [inn]
  by_cases h4 : y 4 = 255
  case neg =>
    have e : zs.map (Value.int .u8) = [.int .u8 255, .int .u8 255, .int .u8 255, .int .u8 255, .int .u8 ((y 4 : Nat) : Int)] ++ (zs.drop 5).map (Value.int .u8) := by
      rw [part 5 (by omega)]
      show [Value.int .u8 ((y 0 : Nat) : Int), Value.int .u8 ((y 1 : Nat) : Int), Value.int .u8 ((y 2 : Nat) : Int), Value.int .u8 ((y 3 : Nat) : Int), Value.int .u8 ((y 4 : Nat) : Int)] ++ _ = _
      simp [h0, h1, h2, h3]
    have hfit' := hfit
    rw [e] at hfit'
    refine calls_s (r_m4 ((y 4 : Nat) : Int) ((zs.drop 5).map (Value.int .u8)) len) ?_ (by rw [beq_bytes]) W hfit' hcap ha hr hs
    have a0 : decide (((y 4 : Nat) : Int) = 255) = false := decide_eq_false (by omega)
    have a1 := capM' e
    simp only [List.forall_mem_cons, a0, hlt, a1]
    simp [inn]
  by_cases h5 : y 5 = 255
  case neg =>
    have e : zs.map (Value.int .u8) = [.int .u8 255, .int .u8 255, .int .u8 255, .int .u8 255, .int .u8 255, .int .u8 ((y 5 : Nat) : Int)] ++ (zs.drop 6).map (Value.int .u8) := by
      rw [part 6 (by omega)]
      show [Value.int .u8 ((y 0 : Nat) : Int), Value.int .u8 ((y 1 : Nat) : Int), Value.int .u8 ((y 2 : Nat) : Int), Value.int .u8 ((y 3 : Nat) : Int), Value.int .u8 ((y 4 : Nat) : Int), Value.int .u8 ((y 5 : Nat) : Int)] ++ _ = _
      simp [h0, h1, h2, h3, h4]
    have hfit' := hfit
    rw [e] at hfit'
    refine calls_s (r_m5 ((y 5 : Nat) : Int) ((zs.drop 6).map (Value.int .u8)) len) ?_ (by rw [beq_bytes]) W hfit' hcap ha hr hs
    have a0 : decide (((y 5 : Nat) : Int) = 255) = false := decide_eq_false (by omega)
    have a1 := capM' e
    simp only [List.forall_mem_cons, a0, hlt, a1]
    simp [inn]
  by_cases h6 : y 6 = 255
  case neg =>
    have e : zs.map (Value.int .u8) = [.int .u8 255, .int .u8 255, .int .u8 255, .int .u8 255, .int .u8 255, .int .u8 255, .int .u8 ((y 6 : Nat) : Int)] ++ (zs.drop 7).map (Value.int .u8) := by
      rw [part 7 (by omega)]
      show [Value.int .u8 ((y 0 : Nat) : Int), Value.int .u8 ((y 1 : Nat) : Int), Value.int .u8 ((y 2 : Nat) : Int), Value.int .u8 ((y 3 : Nat) : Int), Value.int .u8 ((y 4 : Nat) : Int), Value.int .u8 ((y 5 : Nat) : Int), Value.int .u8 ((y 6 : Nat) : Int)] ++ _ = _
      simp [h0, h1, h2, h3, h4, h5]
    have hfit' := hfit
    rw [e] at hfit'
    refine calls_s (r_m6 ((y 6 : Nat) : Int) ((zs.drop 7).map (Value.int .u8)) len) ?_ (by rw [beq_bytes]) W hfit' hcap ha hr hs
    have a0 : decide (((y 6 : Nat) : Int) = 255) = false := decide_eq_false (by omega)
    have a1 := capM' e
    simp only [List.forall_mem_cons, a0, hlt, a1]
    simp [inn]
  by_cases h7 : y 7 = 255
  case neg =>
    have e : zs.map (Value.int .u8) = [.int .u8 255, .int .u8 255, .int .u8 255, .int .u8 255, .int .u8 255, .int .u8 255, .int .u8 255, .int .u8 ((y 7 : Nat) : Int)] ++ (zs.drop 8).map (Value.int .u8) := by
      rw [part 8 (by omega)]
      show [Value.int .u8 ((y 0 : Nat) : Int), Value.int .u8 ((y 1 : Nat) : Int), Value.int .u8 ((y 2 : Nat) : Int), Value.int .u8 ((y 3 : Nat) : Int), Value.int .u8 ((y 4 : Nat) : Int), Value.int .u8 ((y 5 : Nat) : Int), Value.int .u8 ((y 6 : Nat) : Int), Value.int .u8 ((y 7 : Nat) : Int)] ++ _ = _
      simp [h0, h1, h2, h3, h4, h5, h6]
    have hfit' := hfit
    rw [e] at hfit'
    refine calls_s (r_m7 ((y 7 : Nat) : Int) ((zs.drop 8).map (Value.int .u8)) len) ?_ (by rw [beq_bytes]) W hfit' hcap ha hr hs
    have a0 : decide (((y 7 : Nat) : Int) = 255) = false := decide_eq_false (by omega)
    have a1 := capM' e
    simp only [List.forall_mem_cons, a0, hlt, a1]
    simp [inn]
  by_cases h8 : y 8 = 255
  case neg =>
    have e : zs.map (Value.int .u8) = [.int .u8 255, .int .u8 255, .int .u8 255, .int .u8 255, .int .u8 255, .int .u8 255, .int .u8 255, .int .u8 255, .int .u8 ((y 8 : Nat) : Int)] ++ (zs.drop 9).map (Value.int .u8) := by
      rw [part 9 (by omega)]
      show [Value.int .u8 ((y 0 : Nat) : Int), Value.int .u8 ((y 1 : Nat) : Int), Value.int .u8 ((y 2 : Nat) : Int), Value.int .u8 ((y 3 : Nat) : Int), Value.int .u8 ((y 4 : Nat) : Int), Value.int .u8 ((y 5 : Nat) : Int), Value.int .u8 ((y 6 : Nat) : Int), Value.int .u8 ((y 7 : Nat) : Int), Value.int .u8 ((y 8 : Nat) : Int)] ++ _ = _
      simp [h0, h1, h2, h3, h4, h5, h6, h7]
    have hfit' := hfit
    rw [e] at hfit'
    refine calls_s (r_m8 ((y 8 : Nat) : Int) ((zs.drop 9).map (Value.int .u8)) len) ?_ (by rw [beq_bytes]) W hfit' hcap ha hr hs
    have a0 : decide (((y 8 : Nat) : Int) = 255) = false := decide_eq_false (by omega)
    have a1 := capM' e
    simp only [List.forall_mem_cons, a0, hlt, a1]
    simp [inn]
  by_cases h9 : y 9 = 255
  case neg =>
    have e : zs.map (Value.int .u8) = [.int .u8 255, .int .u8 255, .int .u8 255, .int .u8 255, .int .u8 255, .int .u8 255, .int .u8 255, .int .u8 255, .int .u8 255, .int .u8 ((y 9 : Nat) : Int)] ++ (zs.drop 10).map (Value.int .u8) := by
      rw [part 10 (by omega)]
      show [Value.int .u8 ((y 0 : Nat) : Int), Value.int .u8 ((y 1 : Nat) : Int), Value.int .u8 ((y 2 : Nat) : Int), Value.int .u8 ((y 3 : Nat) : Int), Value.int .u8 ((y 4 : Nat) : Int), Value.int .u8 ((y 5 : Nat) : Int), Value.int .u8 ((y 6 : Nat) : Int), Value.int .u8 ((y 7 : Nat) : Int), Value.int .u8 ((y 8 : Nat) : Int), Value.int .u8 ((y 9 : Nat) : Int)] ++ _ = _
      simp [h0, h1, h2, h3, h4, h5, h6, h7, h8]
    have hfit' := hfit
    rw [e] at hfit'
    refine calls_s (r_m9 ((y 9 : Nat) : Int) ((zs.drop 10).map (Value.int .u8)) len) ?_ (by rw [beq_bytes]) W hfit' hcap ha hr hs
    have a0 : decide (((y 9 : Nat) : Int) = 255) = false := decide_eq_false (by omega)
    have a1 := capM' e
    simp only [List.forall_mem_cons, a0, hlt, a1]
    simp [inn]
  by_cases h10 : y 10 = 255
  case neg =>
    have e : zs.map (Value.int .u8) = [.int .u8 255, .int .u8 255, .int .u8 255, .int .u8 255, .int .u8 255, .int .u8 255, .int .u8 255, .int .u8 255, .int .u8 255, .int .u8 255, .int .u8 ((y 10 : Nat) : Int)] ++ (zs.drop 11).map (Value.int .u8) := by
      rw [part 11 (by omega)]
      show [Value.int .u8 ((y 0 : Nat) : Int), Value.int .u8 ((y 1 : Nat) : Int), Value.int .u8 ((y 2 : Nat) : Int), Value.int .u8 ((y 3 : Nat) : Int), Value.int .u8 ((y 4 : Nat) : Int), Value.int .u8 ((y 5 : Nat) : Int), Value.int .u8 ((y 6 : Nat) : Int), Value.int .u8 ((y 7 : Nat) : Int), Value.int .u8 ((y 8 : Nat) : Int), Value.int .u8 ((y 9 : Nat) : Int), Value.int .u8 ((y 10 : Nat) : Int)] ++ _ = _
      simp [h0, h1, h2, h3, h4, h5, h6, h7, h8, h9]
    have hfit' := hfit
    rw [e] at hfit'
    refine calls_s (r_m10 ((y 10 : Nat) : Int) ((zs.drop 11).map (Value.int .u8)) len) ?_ (by rw [beq_bytes]) W hfit' hcap ha hr hs
    have a0 : decide (((y 10 : Nat) : Int) = 255) = false := decide_eq_false (by omega)
    have a1 := capM' e
    simp only [List.forall_mem_cons, a0, hlt, a1]
    simp [inn]
  by_cases h11 : y 11 = 255
  case neg =>
    have e : zs.map (Value.int .u8) = [.int .u8 255, .int .u8 255, .int .u8 255, .int .u8 255, .int .u8 255, .int .u8 255, .int .u8 255, .int .u8 255, .int .u8 255, .int .u8 255, .int .u8 255, .int .u8 ((y 11 : Nat) : Int)] ++ (zs.drop 12).map (Value.int .u8) := by
      rw [part 12 (by omega)]
      show [Value.int .u8 ((y 0 : Nat) : Int), Value.int .u8 ((y 1 : Nat) : Int), Value.int .u8 ((y 2 : Nat) : Int), Value.int .u8 ((y 3 : Nat) : Int), Value.int .u8 ((y 4 : Nat) : Int), Value.int .u8 ((y 5 : Nat) : Int), Value.int .u8 ((y 6 : Nat) : Int), Value.int .u8 ((y 7 : Nat) : Int), Value.int .u8 ((y 8 : Nat) : Int), Value.int .u8 ((y 9 : Nat) : Int), Value.int .u8 ((y 10 : Nat) : Int), Value.int .u8 ((y 11 : Nat) : Int)] ++ _ = _
      simp [h0, h1, h2, h3, h4, h5, h6, h7, h8, h9, h10]
    have hfit' := hfit
    rw [e] at hfit'
    refine calls_s (r_m11 ((y 11 : Nat) : Int) ((zs.drop 12).map (Value.int .u8)) len) ?_ (by rw [beq_bytes]) W hfit' hcap ha hr hs
    have a0 : decide (((y 11 : Nat) : Int) = 255) = false := decide_eq_false (by omega)
    have a1 := capM' e
    simp only [List.forall_mem_cons, a0, hlt, a1]
    simp [inn]
  by_cases h12 : y 12 = 255
  case neg =>
    have e : zs.map (Value.int .u8) = [.int .u8 255, .int .u8 255, .int .u8 255, .int .u8 255, .int .u8 255, .int .u8 255, .int .u8 255, .int .u8 255, .int .u8 255, .int .u8 255, .int .u8 255, .int .u8 255, .int .u8 ((y 12 : Nat) : Int)] ++ (zs.drop 13).map (Value.int .u8) := by
      rw [part 13 (by omega)]
      show [Value.int .u8 ((y 0 : Nat) : Int), Value.int .u8 ((y 1 : Nat) : Int), Value.int .u8 ((y 2 : Nat) : Int), Value.int .u8 ((y 3 : Nat) : Int), Value.int .u8 ((y 4 : Nat) : Int), Value.int .u8 ((y 5 : Nat) : Int), Value.int .u8 ((y 6 : Nat) : Int), Value.int .u8 ((y 7 : Nat) : Int), Value.int .u8 ((y 8 : Nat) : Int), Value.int .u8 ((y 9 : Nat) : Int), Value.int .u8 ((y 10 : Nat) : Int), Value.int .u8 ((y 11 : Nat) : Int), Value.int .u8 ((y 12 : Nat) : Int)] ++ _ = _
      simp [h0, h1, h2, h3, h4, h5, h6, h7, h8, h9, h10, h11]
    have hfit' := hfit
    rw [e] at hfit'
    refine calls_s (r_m12 ((y 12 : Nat) : Int) ((zs.drop 13).map (Value.int .u8)) len) ?_ (by rw [beq_bytes]) W hfit' hcap ha hr hs
    have a0 : decide (((y 12 : Nat) : Int) = 255) = false := decide_eq_false (by omega)
    have a1 := capM' e
    simp only [List.forall_mem_cons, a0, hlt, a1]
    simp [inn]
  by_cases h13 : y 13 = 255
  case neg =>
    have e : zs.map (Value.int .u8) = [.int .u8 255, .int .u8 255, .int .u8 255, .int .u8 255, .int .u8 255, .int .u8 255, .int .u8 255, .int .u8 255, .int .u8 255, .int .u8 255, .int .u8 255, .int .u8 255, .int .u8 255, .int .u8 ((y 13 : Nat) : Int)] ++ (zs.drop 14).map (Value.int .u8) := by
      rw [part 14 (by omega)]
      show [Value.int .u8 ((y 0 : Nat) : Int), Value.int .u8 ((y 1 : Nat) : Int), Value.int .u8 ((y 2 : Nat) : Int), Value.int .u8 ((y 3 : Nat) : Int), Value.int .u8 ((y 4 : Nat) : Int), Value.int .u8 ((y 5 : Nat) : Int), Value.int .u8 ((y 6 : Nat) : Int), Value.int .u8 ((y 7 : Nat) : Int), Value.int .u8 ((y 8 : Nat) : Int), Value.int .u8 ((y 9 : Nat) : Int), Value.int .u8 ((y 10 : Nat) : Int), Value.int .u8 ((y 11 : Nat) : Int), Value.int .u8 ((y 12 : Nat) : Int), Value.int .u8 ((y 13 : Nat) : Int)] ++ _ = _
      simp [h0, h1, h2, h3, h4, h5, h6, h7, h8, h9, h10, h11, h12]
    have hfit' := hfit
    rw [e] at hfit'
    refine calls_s (r_m13 ((y 13 : Nat) : Int) ((zs.drop 14).map (Value.int .u8)) len) ?_ (by rw [beq_bytes]) W hfit' hcap ha hr hs
    have a0 : decide (((y 13 : Nat) : Int) = 255) = false := decide_eq_false (by omega)
    have a1 := capM' e
    simp only [List.forall_mem_cons, a0, hlt, a1]
    simp [inn]
  by_cases h14 : y 14 = 255
  case neg =>
    have e : zs.map (Value.int .u8) = [.int .u8 255, .int .u8 255, .int .u8 255, .int .u8 255, .int .u8 255, .int .u8 255, .int .u8 255, .int .u8 255, .int .u8 255, .int .u8 255, .int .u8 255, .int .u8 255, .int .u8 255, .int .u8 255, .int .u8 ((y 14 : Nat) : Int)] ++ (zs.drop 15).map (Value.int .u8) := by
      rw [part 15 (by omega)]
      show [Value.int .u8 ((y 0 : Nat) : Int), Value.int .u8 ((y 1 : Nat) : Int), Value.int .u8 ((y 2 : Nat) : Int), Value.int .u8 ((y 3 : Nat) : Int), Value.int .u8 ((y 4 : Nat) : Int), Value.int .u8 ((y 5 : Nat) : Int), Value.int .u8 ((y 6 : Nat) : Int), Value.int .u8 ((y 7 : Nat) : Int), Value.int .u8 ((y 8 : Nat) : Int), Value.int .u8 ((y 9 : Nat) : Int), Value.int .u8 ((y 10 : Nat) : Int), Value.int .u8 ((y 11 : Nat) : Int), Value.int .u8 ((y 12 : Nat) : Int), Value.int .u8 ((y 13 : Nat) : Int), Value.int .u8 ((y 14 : Nat) : Int)] ++ _ = _
      simp [h0, h1, h2, h3, h4, h5, h6, h7, h8, h9, h10, h11, h12, h13]
    have hfit' := hfit
    rw [e] at hfit'
    refine calls_s (r_m14 ((y 14 : Nat) : Int) ((zs.drop 15).map (Value.int .u8)) len) ?_ (by rw [beq_bytes]) W hfit' hcap ha hr hs
    have a0 : decide (((y 14 : Nat) : Int) = 255) = false := decide_eq_false (by omega)
    have a1 := capM' e
    simp only [List.forall_mem_cons, a0, hlt, a1]
    simp [inn]
  by_cases h15 : y 15 = 255
  case neg =>
    have e : zs.map (Value.int .u8) = [.int .u8 255, .int .u8 255, .int .u8 255, .int .u8 255, .int .u8 255, .int .u8 255, .int .u8 255, .int .u8 255, .int .u8 255, .int .u8 255, .int .u8 255, .int .u8 255, .int .u8 255, .int .u8 255, .int .u8 255, .int .u8 ((y 15 : Nat) : Int)] ++ (zs.drop 16).map (Value.int .u8) := by
      rw [part 16 (by omega)]
      show [Value.int .u8 ((y 0 : Nat) : Int), Value.int .u8 ((y 1 : Nat) : Int), Value.int .u8 ((y 2 : Nat) : Int), Value.int .u8 ((y 3 : Nat) : Int), Value.int .u8 ((y 4 : Nat) : Int), Value.int .u8 ((y 5 : Nat) : Int), Value.int .u8 ((y 6 : Nat) : Int), Value.int .u8 ((y 7 : Nat) : Int), Value.int .u8 ((y 8 : Nat) : Int), Value.int .u8 ((y 9 : Nat) : Int), Value.int .u8 ((y 10 : Nat) : Int), Value.int .u8 ((y 11 : Nat) : Int), Value.int .u8 ((y 12 : Nat) : Int), Value.int .u8 ((y 13 : Nat) : Int), Value.int .u8 ((y 14 : Nat) : Int), Value.int .u8 ((y 15 : Nat) : Int)] ++ _ = _
      simp [h0, h1, h2, h3, h4, h5, h6, h7, h8, h9, h10, h11, h12, h13, h14]
    have hfit' := hfit
    rw [e] at hfit'
    refine calls_s (r_m15 ((y 15 : Nat) : Int) ((zs.drop 16).map (Value.int .u8)) len) ?_ (by rw [beq_bytes]) W hfit' hcap ha hr hs
    have a0 : decide (((y 15 : Nat) : Int) = 255) = false := decide_eq_false (by omega)
    have a1 := capM' e
    simp only [List.forall_mem_cons, a0, hlt, a1]
    simp [inn]
  have e : zs.map (Value.int .u8) = RL ((y 16 : Nat) : Int) ((y 17 : Nat) : Int) ((y 18 : Nat) : Int) ((zs.drop 19).map (Value.int .u8)) := by
    rw [part 19 (by omega)]
    show [Value.int .u8 ((y 0 : Nat) : Int), Value.int .u8 ((y 1 : Nat) : Int), Value.int .u8 ((y 2 : Nat) : Int), Value.int .u8 ((y 3 : Nat) : Int), Value.int .u8 ((y 4 : Nat) : Int), Value.int .u8 ((y 5 : Nat) : Int), Value.int .u8 ((y 6 : Nat) : Int), Value.int .u8 ((y 7 : Nat) : Int), Value.int .u8 ((y 8 : Nat) : Int), Value.int .u8 ((y 9 : Nat) : Int), Value.int .u8 ((y 10 : Nat) : Int), Value.int .u8 ((y 11 : Nat) : Int), Value.int .u8 ((y 12 : Nat) : Int), Value.int .u8 ((y 13 : Nat) : Int), Value.int .u8 ((y 14 : Nat) : Int), Value.int .u8 ((y 15 : Nat) : Int), Value.int .u8 ((y 16 : Nat) : Int), Value.int .u8 ((y 17 : Nat) : Int), Value.int .u8 ((y 18 : Nat) : Int)] ++ _ = _
    simp [RL, h0, h1, h2, h3, h4, h5, h6, h7, h8, h9, h10, h11, h12, h13, h14, h15]
  have hfit' := hfit
  rw [e] at hfit'
  have b16 := hy 16
  have b17 := hy 17
  have b18 := hy 18
  obtain ⟨a, haa⟩ : ∃ a, y 16 = a := ⟨_, rfl⟩
  obtain ⟨b, hbb⟩ : ∃ b, y 17 = b := ⟨_, rfl⟩
  obtain ⟨c, hcc⟩ : ∃ c, y 18 = c := ⟨_, rfl⟩
  rw [haa] at b16; rw [hbb] at b17; rw [hcc] at b18
  rw [haa, hbb, hcc] at e hfit'
  obtain ⟨rest, hrest⟩ : ∃ rest, rest = (zs.drop 19).map (Value.int .u8) := ⟨_, rfl⟩
  rw [← hrest] at e hfit'
  have hrl : rest.length = len - 19 := by rw [hrest]; simp [hlen]
  obtain ⟨S, hS⟩ : ∃ S : Nat, S = a * 256 + b := ⟨_, rfl⟩
  have szR : (RO (a : Int) (b : Int) (c : Int) rest).cells.size = len := sz e
  have cap' : ∀ x : Int, 0 ≤ x → x ≤ (len : Int) → capC (a : Int) (b : Int) (c : Int) rest x := by
    intro x hx0 hx1
    unfold capC
    rw [szR]
    exact decide_eq_true ⟨hx0, by omega⟩
  have e16 : capC (a : Int) (b : Int) (c : Int) rest 16 := cap' 16 (by omega) (by omega)
  have e18 : capC (a : Int) (b : Int) (c : Int) rest 18 := cap' 18 (by omega) (by omega)
  have e19 : capC (a : Int) (b : Int) (c : Int) rest 19 := cap' 19 (by omega) (by omega)
  have fa : ff 0 (a : Int) = true := ff_true _ _
  have fc : ff 0 (c : Int) = true := ff_true _ _
  have fb : ff (sN 0 (a : Int)) (b : Int) = true := ff_true _ _
  have fr := fR_true b16 b17
  have n1 : Value.int .i64 (wrapF .i64 (sN (sN 0 (a : Int)) (b : Int))) = Value.int .i64 (S : Int) := by rw [sN_zero b16, sN_nat (by omega) b17, wrap64 (by omega) (by omega), hS]
  have n2 : Value.int .i64 (wrapF .i64 (sN 0 (c : Int))) = Value.int .i64 (c : Int) := by rw [sN_zero b18, wrap64 (by omega) (by omega)]
  have n3 : Value.int .i64 (sR (a : Int) (b : Int)) = Value.int .i64 (S : Int) := by rw [sR_nat b16 b17, hS]
  have n4 : Value.int .i64 (wrapF .i64 (c : Int)) = Value.int .i64 (c : Int) := by rw [wrap64 (by omega) (by omega)]
  have i0 := inn 0 (by omega) (by omega)
  have i16 := inn 16 (by omega) (by omega)
  have i17 := inn 17 (by omega) (by omega)
  have i18 := inn 18 (by omega) (by omega)
  have ii : ∀ i : Int, 0 ≤ i → i < 19 → inC len i := inn
  have ltn : ∀ k : Int, (S : Int) < k → decide ((S : Int) < k) = true := fun k h => decide_eq_true h
  have ltf : ∀ k : Int, ¬ (S : Int) < k → decide ((S : Int) < k) = false := fun k h => decide_eq_false h
  by_cases q1 : S < 19
  ·
    have s1 : decide (((S : Nat) : Int) < 19) = true := decide_eq_true (by omega)
    refine calls_s (r_le1 (a : Int) (b : Int) (c : Int) (S : Int) (c : Int) rest len #[] []) ?_ (by rw [beq_bytes]) W hfit' hcap ha hr hs
    simp only [c_le1, List.forall_mem_cons, fa, fb, fc, fr, n1, n2, n3, n4, hlt, s1]
    simp [e16, e18, e19, inn]
  by_cases q2 : 4096 < S
  ·
    have s1 : decide (((S : Nat) : Int) < 19) = false := decide_eq_false (by omega)
    have s2 : decide (((S : Nat) : Int) > 4096) = true := decide_eq_true (by omega)
    refine calls_s (r_le2 (a : Int) (b : Int) (c : Int) (S : Int) (c : Int) rest len #[] []) ?_ (by rw [beq_bytes]) W hfit' hcap ha hr hs
    simp only [c_le2, List.forall_mem_cons, fa, fb, fc, fr, n1, n2, n3, n4, hlt, s1, s2]
    simp [e16, e18, e19, inn]
  have s1 : decide (((S : Nat) : Int) < 19) = false := decide_eq_false (by omega)
  have s2 : decide (((S : Nat) : Int) > 4096) = false := decide_eq_false (by omega)
  by_cases q3 : c < 1
  ·
    have k1 : decide (((c : Nat) : Int) < 1) = true := decide_eq_true (by omega)
    have k2 : decide (((c : Nat) : Int) ≥ 1) = false := decide_eq_false (by omega)
    refine calls_s (r_ki0 (a : Int) (b : Int) (c : Int) (S : Int) (c : Int) rest len #[] []) ?_ (by rw [beq_bytes]) W hfit' hcap ha hr hs
    simp only [c_ki0, List.forall_mem_cons, fa, fb, fc, fr, n1, n2, n3, n4, hlt, s1, s2, k1, k2]
    simp [e16, e18, e19, inn]
  have k1 : decide (((c : Nat) : Int) < 1) = false := decide_eq_false (by omega)
  have k2 : decide (((c : Nat) : Int) ≥ 1) = true := decide_eq_true (by omega)
  by_cases q4 : 4 < c
  ·
    have k3 : decide (((c : Nat) : Int) > 4) = true := decide_eq_true (by omega)
    have k4 : decide (((c : Nat) : Int) ≤ 4) = false := decide_eq_false (by omega)
    refine calls_s (r_ki5 (a : Int) (b : Int) (c : Int) (S : Int) (c : Int) rest len #[] []) ?_ (by rw [beq_bytes]) W hfit' hcap ha hr hs
    simp only [c_ki5, List.forall_mem_cons, fa, fb, fc, fr, n1, n2, n3, n4, hlt, s1, s2, k1, k2, k3, k4]
    simp [e16, e18, e19, inn]
  have k3 : decide (((c : Nat) : Int) > 4) = false := decide_eq_false (by omega)
  have k4 : decide (((c : Nat) : Int) ≤ 4) = true := decide_eq_true (by omega)
  have base : ∀ v : Nat, decide (((c : Nat) : Int) = (v : Int)) = decide (c = v) := fun v => by
    by_cases h : c = v
    · rw [decide_eq_true h, decide_eq_true (by omega)]
    · rw [decide_eq_false h, decide_eq_false (by omega)]
  -- the tail, where there is one
  have tl : S ≤ len → 19 ≤ S → ∃ l : List UInt8, rowL (a : Int) (b : Int) (c : Int) rest (S : Int) (tailC (a : Int) (b : Int) (c : Int) rest (S : Int)) ∧ rowR (a : Int) (b : Int) (c : Int) rest (S : Int) (tailC (a : Int) (b : Int) (c : Int) rest (S : Int)) ∧
      bytesOf (tailC (a : Int) (b : Int) (c : Int) rest (S : Int)).toList = some l := by
    intro hn h19'
    have hT : (tailC (a : Int) (b : Int) (c : Int) rest (S : Int)).toList = ((zs.drop 19).take (S - 19)).map (Value.int .u8) := by
      show ((RL (a : Int) (b : Int) (c : Int) rest).drop (0 + 19 * 1)).take (((S : Int).toNat - 19) * 1) = _
      have h1 : (RL (a : Int) (b : Int) (c : Int) rest).drop (0 + 19 * 1) = rest := rfl
      rw [h1, hrest, Nat.mul_one, Int.toNat_natCast, List.map_take]
    have hTs : (tailC (a : Int) (b : Int) (c : Int) rest (S : Int)).size = S - 19 := by
      rw [← Array.length_toList, hT]
      simp
      omega
    have hex : ∀ k, k = S - 19 → (tailC (a : Int) (b : Int) (c : Int) rest (S : Int)).extract 0 k = tailC (a : Int) (b : Int) (c : Int) rest (S : Int) := by
      intro k hk
      have := Array.extract_size (xs := tailC (a : Int) (b : Int) (c : Int) rest (S : Int))
      rw [hTs] at this
      rw [hk]; exact this
    have h0' : exQ (#[] : Array Value) 0 (0 * 1) = #[] := rfl
    have hbytes : ∀ L : List Int, ∃ l, bytesOf (L.map (Value.int .u8)) = some l := by
      intro L
      induction L with
      | nil => exact ⟨[], rfl⟩
      | cons x r ih =>
        obtain ⟨l, hl⟩ := ih
        exact ⟨UInt8.ofNat x.toNat :: l, by simp [bytesOf, hl]⟩
    obtain ⟨l, hl⟩ := hbytes ((zs.drop 19).take (S - 19))
    refine ⟨l, ⟨by rw [hTs, Int.toNat_natCast]; omega, hex _ (by rw [Int.toNat_natCast]; omega)⟩, ?_, by rw [hT]; exact hl⟩
    unfold rowR
    rw [h0', apQ_eq, Array.empty_append]
    exact ⟨by rw [hTs, Int.toNat_natCast]; omega, hex _ (by rw [Int.toNat_natCast]; omega)⟩
  have g1 : decide ((0 : Int) ≤ 19 ∧ 19 ≤ (((S : Int).toNat : Nat) : Int)) = true := decide_eq_true ⟨by omega, by rw [Int.toNat_natCast]; omega⟩
  have ss : decide ((S : Int) = (S : Int)) = true := decide_eq_true rfl
  have cc : decide ((c : Int) = (c : Int)) = true := decide_eq_true rfl
  by_cases c1 : c = 1
  ·
    have j1 : decide (((c : Nat) : Int) = 1) = true := decide_eq_true (by omega)
    have j2 : decide (((c : Nat) : Int) = 2) = false := decide_eq_false (by omega)
    have j3 : decide (((c : Nat) : Int) = 3) = false := decide_eq_false (by omega)
    have j4 : decide (((c : Nat) : Int) = 4) = false := decide_eq_false (by omega)
    by_cases q5 : S < 29
    ·
      have t1 : decide (((S : Nat) : Int) < 29) = true := decide_eq_true (by omega)
      have t2 : decide (((S : Nat) : Int) ≥ 29) = false := decide_eq_false (by omega)
      refine calls_s (r_fi1 (a : Int) (b : Int) (c : Int) (S : Int) (c : Int) rest len #[] []) ?_ (by rw [beq_bytes]) W hfit' hcap ha hr hs
      simp only [c_fi1, List.forall_mem_cons, fa, fb, fc, fr, n1, n2, n3, n4, hlt, s1, s2, k1, k2, k3, k4, t1, t2, j1, j2, j3, j4]
      simp [e16, e18, e19, inn]
    have t1 : decide (((S : Nat) : Int) < 29) = false := decide_eq_false (by omega)
    have t2 : decide (((S : Nat) : Int) ≥ 29) = true := decide_eq_true (by omega)
    by_cases q6 : len < S
    ·
      have u1 : decide (((len : Nat) : Int) < ((S : Nat) : Int)) = true := decide_eq_true (by omega)
      refine calls_s (r_sh1 (a : Int) (b : Int) (c : Int) (S : Int) (c : Int) rest len #[] []) ?_ (by rw [beq_bytes]) W hfit' hcap ha hr hs
      simp only [c_sh1, List.forall_mem_cons, fa, fb, fc, fr, n1, n2, n3, n4, hlt, s1, s2, k1, k2, k3, k4, t1, t2, u1, j1, j2, j3, j4]
      simp [e16, e18, e19, inn]
    have u1 : decide (((len : Nat) : Int) < ((S : Nat) : Int)) = false := decide_eq_false (by omega)
    obtain ⟨l, w1, w2, w3⟩ := tl (by omega) (by omega)
    have eS := cap' (S : Int) (by omega) (by omega)
    have g2 : decide (0 + 19 * 1 + ((S : Int).toNat - 19) * 1 ≤ (RO (a : Int) (b : Int) (c : Int) rest).cells.size) = true := decide_eq_true (by rw [szR, Int.toNat_natCast]; omega)
    have g3 : decide (0 + ((S : Int).toNat - 19) ≤ 1073741824) = true := decide_eq_true (by rw [Int.toNat_natCast]; omega)
    have g4 : decide ((S : Int).toNat - 19 ≤ 1073741824) = true := decide_eq_true (by rw [Int.toNat_natCast]; omega)
    have g5 : ((S : Int).toNat - 19 == 0) = false := by rw [Int.toNat_natCast]; exact beq_false_of_ne (by omega)
    refine calls_s (r_ok1 (a : Int) (b : Int) (c : Int) (S : Int) (c : Int) rest len (tailC (a : Int) (b : Int) (c : Int) rest (S : Int)) l) ?_ (by rw [beq_bytes]) W hfit' hcap ha hr hs
    simp only [c_ok1, List.forall_mem_cons, fa, fb, fc, fr, n1, n2, n3, n4, hlt, s1, s2, k1, k2, k3, k4, t1, t2, u1, j1, j2, j3, j4, g1, g2, g3, g4, g5, ss, cc, beq_bytes]
    simp [e16, e18, e19, eS, inn, w1, w2, w3]
  by_cases c2 : c = 2
  ·
    have j1 : decide (((c : Nat) : Int) = 1) = false := decide_eq_false (by omega)
    have j2 : decide (((c : Nat) : Int) = 2) = true := decide_eq_true (by omega)
    have j3 : decide (((c : Nat) : Int) = 3) = false := decide_eq_false (by omega)
    have j4 : decide (((c : Nat) : Int) = 4) = false := decide_eq_false (by omega)
    by_cases q5 : S < 23
    ·
      have t1 : decide (((S : Nat) : Int) < 23) = true := decide_eq_true (by omega)
      have t2 : decide (((S : Nat) : Int) ≥ 23) = false := decide_eq_false (by omega)
      refine calls_s (r_fi2 (a : Int) (b : Int) (c : Int) (S : Int) (c : Int) rest len #[] []) ?_ (by rw [beq_bytes]) W hfit' hcap ha hr hs
      simp only [c_fi2, List.forall_mem_cons, fa, fb, fc, fr, n1, n2, n3, n4, hlt, s1, s2, k1, k2, k3, k4, t1, t2, j1, j2, j3, j4]
      simp [e16, e18, e19, inn]
    have t1 : decide (((S : Nat) : Int) < 23) = false := decide_eq_false (by omega)
    have t2 : decide (((S : Nat) : Int) ≥ 23) = true := decide_eq_true (by omega)
    by_cases q6 : len < S
    ·
      have u1 : decide (((len : Nat) : Int) < ((S : Nat) : Int)) = true := decide_eq_true (by omega)
      refine calls_s (r_sh2 (a : Int) (b : Int) (c : Int) (S : Int) (c : Int) rest len #[] []) ?_ (by rw [beq_bytes]) W hfit' hcap ha hr hs
      simp only [c_sh2, List.forall_mem_cons, fa, fb, fc, fr, n1, n2, n3, n4, hlt, s1, s2, k1, k2, k3, k4, t1, t2, u1, j1, j2, j3, j4]
      simp [e16, e18, e19, inn]
    have u1 : decide (((len : Nat) : Int) < ((S : Nat) : Int)) = false := decide_eq_false (by omega)
    obtain ⟨l, w1, w2, w3⟩ := tl (by omega) (by omega)
    have eS := cap' (S : Int) (by omega) (by omega)
    have g2 : decide (0 + 19 * 1 + ((S : Int).toNat - 19) * 1 ≤ (RO (a : Int) (b : Int) (c : Int) rest).cells.size) = true := decide_eq_true (by rw [szR, Int.toNat_natCast]; omega)
    have g3 : decide (0 + ((S : Int).toNat - 19) ≤ 1073741824) = true := decide_eq_true (by rw [Int.toNat_natCast]; omega)
    have g4 : decide ((S : Int).toNat - 19 ≤ 1073741824) = true := decide_eq_true (by rw [Int.toNat_natCast]; omega)
    have g5 : ((S : Int).toNat - 19 == 0) = false := by rw [Int.toNat_natCast]; exact beq_false_of_ne (by omega)
    refine calls_s (r_ok2 (a : Int) (b : Int) (c : Int) (S : Int) (c : Int) rest len (tailC (a : Int) (b : Int) (c : Int) rest (S : Int)) l) ?_ (by rw [beq_bytes]) W hfit' hcap ha hr hs
    simp only [c_ok2, List.forall_mem_cons, fa, fb, fc, fr, n1, n2, n3, n4, hlt, s1, s2, k1, k2, k3, k4, t1, t2, u1, j1, j2, j3, j4, g1, g2, g3, g4, g5, ss, cc, beq_bytes]
    simp [e16, e18, e19, eS, inn, w1, w2, w3]
  by_cases c3 : c = 3
  ·
    have j1 : decide (((c : Nat) : Int) = 1) = false := decide_eq_false (by omega)
    have j2 : decide (((c : Nat) : Int) = 2) = false := decide_eq_false (by omega)
    have j3 : decide (((c : Nat) : Int) = 3) = true := decide_eq_true (by omega)
    have j4 : decide (((c : Nat) : Int) = 4) = false := decide_eq_false (by omega)
    by_cases q5 : S < 21
    ·
      have t1 : decide (((S : Nat) : Int) < 21) = true := decide_eq_true (by omega)
      have t2 : decide (((S : Nat) : Int) ≥ 21) = false := decide_eq_false (by omega)
      refine calls_s (r_fi3 (a : Int) (b : Int) (c : Int) (S : Int) (c : Int) rest len #[] []) ?_ (by rw [beq_bytes]) W hfit' hcap ha hr hs
      simp only [c_fi3, List.forall_mem_cons, fa, fb, fc, fr, n1, n2, n3, n4, hlt, s1, s2, k1, k2, k3, k4, t1, t2, j1, j2, j3, j4]
      simp [e16, e18, e19, inn]
    have t1 : decide (((S : Nat) : Int) < 21) = false := decide_eq_false (by omega)
    have t2 : decide (((S : Nat) : Int) ≥ 21) = true := decide_eq_true (by omega)
    by_cases q6 : len < S
    ·
      have u1 : decide (((len : Nat) : Int) < ((S : Nat) : Int)) = true := decide_eq_true (by omega)
      refine calls_s (r_sh3 (a : Int) (b : Int) (c : Int) (S : Int) (c : Int) rest len #[] []) ?_ (by rw [beq_bytes]) W hfit' hcap ha hr hs
      simp only [c_sh3, List.forall_mem_cons, fa, fb, fc, fr, n1, n2, n3, n4, hlt, s1, s2, k1, k2, k3, k4, t1, t2, u1, j1, j2, j3, j4]
      simp [e16, e18, e19, inn]
    have u1 : decide (((len : Nat) : Int) < ((S : Nat) : Int)) = false := decide_eq_false (by omega)
    obtain ⟨l, w1, w2, w3⟩ := tl (by omega) (by omega)
    have eS := cap' (S : Int) (by omega) (by omega)
    have g2 : decide (0 + 19 * 1 + ((S : Int).toNat - 19) * 1 ≤ (RO (a : Int) (b : Int) (c : Int) rest).cells.size) = true := decide_eq_true (by rw [szR, Int.toNat_natCast]; omega)
    have g3 : decide (0 + ((S : Int).toNat - 19) ≤ 1073741824) = true := decide_eq_true (by rw [Int.toNat_natCast]; omega)
    have g4 : decide ((S : Int).toNat - 19 ≤ 1073741824) = true := decide_eq_true (by rw [Int.toNat_natCast]; omega)
    have g5 : ((S : Int).toNat - 19 == 0) = false := by rw [Int.toNat_natCast]; exact beq_false_of_ne (by omega)
    refine calls_s (r_ok3 (a : Int) (b : Int) (c : Int) (S : Int) (c : Int) rest len (tailC (a : Int) (b : Int) (c : Int) rest (S : Int)) l) ?_ (by rw [beq_bytes]) W hfit' hcap ha hr hs
    simp only [c_ok3, List.forall_mem_cons, fa, fb, fc, fr, n1, n2, n3, n4, hlt, s1, s2, k1, k2, k3, k4, t1, t2, u1, j1, j2, j3, j4, g1, g2, g3, g4, g5, ss, cc, beq_bytes]
    simp [e16, e18, e19, eS, inn, w1, w2, w3]
  have c4 : c = 4 := by omega
  have j1 : decide (((c : Nat) : Int) = 1) = false := decide_eq_false (by omega)
  have j2 : decide (((c : Nat) : Int) = 2) = false := decide_eq_false (by omega)
  have j3 : decide (((c : Nat) : Int) = 3) = false := decide_eq_false (by omega)
  have j4 : decide (((c : Nat) : Int) = 4) = true := decide_eq_true (by omega)
  by_cases q5 : S = 19
  case neg =>
    have t1 : decide (((S : Nat) : Int) = 19) = false := decide_eq_false (by omega)
    refine calls_s (r_fi4 (a : Int) (b : Int) (c : Int) (S : Int) (c : Int) rest len #[] []) ?_ (by rw [beq_bytes]) W hfit' hcap ha hr hs
    simp only [c_fi4, List.forall_mem_cons, fa, fb, fc, fr, n1, n2, n3, n4, hlt, s1, s2, k1, k2, k3, k4, t1, j1, j2, j3, j4]
    simp [e16, e18, e19, inn]
  have t1 : decide (((S : Nat) : Int) = 19) = true := decide_eq_true (by omega)
  have u1 : decide (((len : Nat) : Int) < ((S : Nat) : Int)) = false := decide_eq_false (by omega)
  have eS := cap' (S : Int) (by omega) (by omega)
  have g2 : decide (0 + 19 * 1 + ((S : Int).toNat - 19) * 1 ≤ (RO (a : Int) (b : Int) (c : Int) rest).cells.size) = true := decide_eq_true (by rw [szR, Int.toNat_natCast]; omega)
  have g5 : ((S : Int).toNat - 19 == 0) = true := by rw [Int.toNat_natCast, q5]; rfl
  refine calls_s (r_ok4 (a : Int) (b : Int) (c : Int) (S : Int) (c : Int) rest len #[] []) ?_ (by rw [beq_bytes]) W hfit' hcap ha hr hs
  simp only [c_ok4, List.forall_mem_cons, fa, fb, fc, fr, n1, n2, n3, n4, hlt, s1, s2, k1, k2, k3, k4, t1, u1, j1, j2, j3, j4, g1, g2, g5, ss, cc, beq_bytes]
  simp [e16, e18, e19, eS, inn]
theorem split_sum : RowSum Try.prog 35 .u8 1000000 (.bool true) where
  flat := rfl
  calls := by
    refine ⟨_, _, Try.func35, by kernel_rfl, rfl, fun W v hv hl => ?_⟩
    rcases hv with hv | ⟨x, rfl⟩
    · rcases hv with rfl | ⟨a, len, cap, zs, l, rfl, hlen, hcap, hwf, hfit, ha, hr, hs⟩
      · exact calls_of_run noEnv_sound good Try.func35 rfl none_run (by simp) rfl rfl W
      · exact row_walk W hlen hcap hwf hfit ha hr hs
    · exact calls_of_none noEnv_sound good Try.func35 rfl empty_run W x
end Split
end Go.Proofs.Ytddlejbcnjmfmaa
