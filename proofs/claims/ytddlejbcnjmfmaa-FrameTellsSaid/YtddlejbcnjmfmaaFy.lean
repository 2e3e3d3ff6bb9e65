/- P5.1: messages are joined and cut as the document says, for any bytes: FrameTells from end to end. -/
import Derived.Test.YtddlejbcnjmfmaaFx
namespace Go.Proofs.Ytddlejbcnjmfmaa
open Go Go.Ev Go.RowKit
set_option maxRecDepth 100000
namespace FrameTl
theorem known_run : runTrue Try.prog noEnv 300 36 #[] Try.prog.globals.size = true := by kernel_rfl
theorem known_sum : PureSum Try.prog 36 trueG := .of_calls Try.func36 (by kernel_rfl) rfl fun args p v h _ _ => by
  obtain ⟨rfl, rfl⟩ := trueG_args h
  exact ⟨rfl, fun W => calls_true noEnv_sound good Try.func36 rfl known_run rfl W⟩
theorem Eft_sound : Eft.Sound Try.prog := rowEnv_sound (pureEnv_sound (P := Try.prog) (l := [(37, withinG), (36, trueG)]) ⟨within_sum, known_sum, trivial⟩) Split.split_sum
abbrev Goal (W : World) (a : List Value) : Prop := Calls Try.prog 8 ⟨a⟩ W fun e W' => e = .returned (.bool true) ∧ Below W.heap.size W W'
theorem go {W : World} {kind at' turn : Int} {b d b' d' : Value} {ps : List (List Value × Ev.Loc)} {π : List Ans} {cs : List Prop} (h : FRow kind b d at' turn (ps.map (·.1)) π cs) (g : ∀ p ∈ cs, p)
    (hps : ∀ p ∈ ps, RowFits W p.1 p.2)
    (hb : VRel (stRows Try.prog.globals.size (ps.map (·.1)) (some π)).heap.size (rhoRows Try.prog.globals.size (ps.map (·.2))) b b')
    (hd : VRel (stRows Try.prog.globals.size (ps.map (·.1)) (some π)).heap.size (rhoRows Try.prog.globals.size (ps.map (·.2))) d d') :
    Goal W [.int .i64 kind, b', d', .int .i64 at', .int .u8 turn] :=
  calls_of_runR Eft_sound good Try.func8 rfl h g rfl W hps (.cons (.flat rfl) (.cons hb (.cons hd (.cons (.flat rfl) (.cons (.flat rfl) .nil)))))
theorem ok_of {zs : List Int} (h : ∀ n ∈ zs, (Lit.int .u8 n).wf = true) : ∀ v ∈ zs.map (Value.int .u8), intOk .u8 v = true := by
  intro v hv
  obtain ⟨n, hn, rfl⟩ := List.mem_map.1 hv
  simp [intOk, h n hn]
/-- The row of one slice that was handed in. -/
structure Rw (W : World) (zs : List Int) (l : Ev.Loc) (a : Addr) (len cap : Nat) : Prop where
  hlen : zs.length = len
  hcap : len ≤ cap
  wf : ∀ n ∈ zs, (Lit.int .u8 n).wf = true
  fit : RowFits W (zs.map (Value.int .u8)) l
  at' : a = ⟨l.blk, l.shift, none⟩
  room : l.room = l.shift + cap
  size : l.size = len
theorem Rw.rel {W : World} {zs : List Int} {l : Ev.Loc} {a : Addr} {len cap : Nat} (h : Rw W zs l a len cap) {ps : List (List Value × Ev.Loc)} {i : Nat} {π : Option (List Ans)} (hi : (ps.map (·.2))[i]? = some l) :
    VRel (stRows Try.prog.globals.size (ps.map (·.1)) π).heap.size (rhoRows Try.prog.globals.size (ps.map (·.2))) (rA i len) (.slice (some a) len cap) := by
  have hlt : i < ps.length := by
    have := (List.getElem?_eq_some_iff.1 hi).1
    simpa using this
  exact vrel_row hi (by simp [stRows]; omega) h.fit.bad h.fit.esz h.size h.room h.hcap h.at'
theorem w_lo_None_None {W : World} {kind at' turn : Int} (hk : kind < 1)  (t0 : 0 ≤ turn) (t1 : turn < 256) : Goal W [.int .i64 kind, .slice none 0 0, .slice none 0 0, .int .i64 at', .int .u8 turn] := by
  have hc := k_lo_None_None (kind := kind) hk
  exact go (ps := []) (r_lo_None_None kind at' turn) hc (fun p hp => nomatch hp) (.flat rfl) (.flat rfl)
theorem w_lo_None_row {W : World} {kind at' turn : Int} (hk : kind < 1) {zd : List Int} {ld : Ev.Loc} {ad : Addr} {nd capd : Nat} (rd : Rw W zd ld ad nd capd) (t0 : 0 ≤ turn) (t1 : turn < 256) : Goal W [.int .i64 kind, .slice none 0 0, .slice (some ad) nd capd, .int .i64 at', .int .u8 turn] := by
  have hD : (zd.map (Value.int .u8)).length = nd := by rw [List.length_map]; exact rd.hlen
  have oD := ok_of rd.wf
  by_cases qd : nd = 0
  · have hc := k_lo_None_0 (kind := kind) (D := (zd.map (Value.int .u8))) hk hD qd
    exact go (ps := [(zd.map (Value.int .u8), ld)]) (r_lo_None_0 kind at' turn (zd.map (Value.int .u8)) nd) hc (fun p hp => by rw [List.mem_singleton] at hp; subst hp; exact rd.fit) (.flat rfl) (rd.rel (i := 0) rfl)
  by_cases qd : nd ≤ 100
  · obtain ⟨i, v, hc⟩ := k_lo_None_4 (kind := kind) (D := (zd.map (Value.int .u8))) (at' := at') hk hD oD (by omega) qd t0 t1
    exact go (ps := [(zd.map (Value.int .u8), ld)]) (r_lo_None_4 kind at' turn (zd.map (Value.int .u8)) nd i v) hc (fun p hp => by rw [List.mem_singleton] at hp; subst hp; exact rd.fit) (.flat rfl) (rd.rel (i := 0) rfl)
  by_cases qd : nd ≤ 300
  · obtain ⟨i, v, hc⟩ := k_lo_None_101 (kind := kind) (D := (zd.map (Value.int .u8))) (at' := at') hk hD oD (by omega) qd t0 t1
    exact go (ps := [(zd.map (Value.int .u8), ld)]) (r_lo_None_101 kind at' turn (zd.map (Value.int .u8)) nd i v) hc (fun p hp => by rw [List.mem_singleton] at hp; subst hp; exact rd.fit) (.flat rfl) (rd.rel (i := 0) rfl)
  obtain ⟨i, v, hc⟩ := k_lo_None_301 (kind := kind) (D := (zd.map (Value.int .u8))) (at' := at') hk hD oD (by omega) t0 t1
  exact go (ps := [(zd.map (Value.int .u8), ld)]) (r_lo_None_301 kind at' turn (zd.map (Value.int .u8)) nd i v) hc (fun p hp => by rw [List.mem_singleton] at hp; subst hp; exact rd.fit) (.flat rfl) (rd.rel (i := 0) rfl)
theorem w_lo_row_None {W : World} {kind at' turn : Int} (hk : kind < 1) {zb : List Int} {lb : Ev.Loc} {ab : Addr} {nb capb : Nat} (rb : Rw W zb lb ab nb capb) (t0 : 0 ≤ turn) (t1 : turn < 256) : Goal W [.int .i64 kind, .slice (some ab) nb capb, .slice none 0 0, .int .i64 at', .int .u8 turn] := by
  have hB : (zb.map (Value.int .u8)).length = nb := by rw [List.length_map]; exact rb.hlen
  have oB := ok_of rb.wf
  by_cases qb : nb = 0
  ·
    have hc := k_lo_0_None (kind := kind) (B := (zb.map (Value.int .u8))) hk hB qb
    exact go (ps := [(zb.map (Value.int .u8), lb)]) (r_lo_0_None kind at' turn (zb.map (Value.int .u8)) nb) hc (fun p hp => by rw [List.mem_singleton] at hp; subst hp; exact rb.fit) (rb.rel (i := 0) rfl) (.flat rfl)
  by_cases qb : nb ≤ 300
  ·
    have hc := k_lo_3_None (kind := kind) (B := (zb.map (Value.int .u8))) hk hB oB (by omega) qb
    exact go (ps := [(zb.map (Value.int .u8), lb)]) (r_lo_3_None kind at' turn (zb.map (Value.int .u8)) nb) hc (fun p hp => by rw [List.mem_singleton] at hp; subst hp; exact rb.fit) (rb.rel (i := 0) rfl) (.flat rfl)
  have hc := k_lo_301_None (kind := kind) (B := (zb.map (Value.int .u8))) hk hB oB (by omega)
  exact go (ps := [(zb.map (Value.int .u8), lb)]) (r_lo_301_None kind at' turn (zb.map (Value.int .u8)) nb) hc (fun p hp => by rw [List.mem_singleton] at hp; subst hp; exact rb.fit) (rb.rel (i := 0) rfl) (.flat rfl)
theorem w_lo_row_row {W : World} {kind at' turn : Int} (hk : kind < 1) {zb : List Int} {lb : Ev.Loc} {ab : Addr} {nb capb : Nat} (rb : Rw W zb lb ab nb capb) {zd : List Int} {ld : Ev.Loc} {ad : Addr} {nd capd : Nat} (rd : Rw W zd ld ad nd capd) (t0 : 0 ≤ turn) (t1 : turn < 256) : Goal W [.int .i64 kind, .slice (some ab) nb capb, .slice (some ad) nd capd, .int .i64 at', .int .u8 turn] := by
  have hB : (zb.map (Value.int .u8)).length = nb := by rw [List.length_map]; exact rb.hlen
  have oB := ok_of rb.wf
  have hD : (zd.map (Value.int .u8)).length = nd := by rw [List.length_map]; exact rd.hlen
  have oD := ok_of rd.wf
  by_cases qb : nb = 0
  ·
    by_cases qd : nd = 0
    · have hc := k_lo_0_0 (kind := kind) (B := (zb.map (Value.int .u8))) (D := (zd.map (Value.int .u8))) hk hB qb hD qd
      exact go (ps := [(zb.map (Value.int .u8), lb), (zd.map (Value.int .u8), ld)]) (r_lo_0_0 kind at' turn (zb.map (Value.int .u8)) (zd.map (Value.int .u8)) nb nd) hc (fun p hp => by rcases List.mem_cons.1 hp with rfl | hp; exact rb.fit; rw [List.mem_singleton] at hp; subst hp; exact rd.fit) (rb.rel (i := 0) rfl) (rd.rel (i := 1) rfl)
    by_cases qd : nd ≤ 100
    · obtain ⟨i, v, hc⟩ := k_lo_0_4 (kind := kind) (B := (zb.map (Value.int .u8))) (D := (zd.map (Value.int .u8))) (at' := at') hk hB qb hD oD (by omega) qd t0 t1
      exact go (ps := [(zb.map (Value.int .u8), lb), (zd.map (Value.int .u8), ld)]) (r_lo_0_4 kind at' turn (zb.map (Value.int .u8)) (zd.map (Value.int .u8)) nb nd i v) hc (fun p hp => by rcases List.mem_cons.1 hp with rfl | hp; exact rb.fit; rw [List.mem_singleton] at hp; subst hp; exact rd.fit) (rb.rel (i := 0) rfl) (rd.rel (i := 1) rfl)
    by_cases qd : nd ≤ 300
    · obtain ⟨i, v, hc⟩ := k_lo_0_101 (kind := kind) (B := (zb.map (Value.int .u8))) (D := (zd.map (Value.int .u8))) (at' := at') hk hB qb hD oD (by omega) qd t0 t1
      exact go (ps := [(zb.map (Value.int .u8), lb), (zd.map (Value.int .u8), ld)]) (r_lo_0_101 kind at' turn (zb.map (Value.int .u8)) (zd.map (Value.int .u8)) nb nd i v) hc (fun p hp => by rcases List.mem_cons.1 hp with rfl | hp; exact rb.fit; rw [List.mem_singleton] at hp; subst hp; exact rd.fit) (rb.rel (i := 0) rfl) (rd.rel (i := 1) rfl)
    obtain ⟨i, v, hc⟩ := k_lo_0_301 (kind := kind) (B := (zb.map (Value.int .u8))) (D := (zd.map (Value.int .u8))) (at' := at') hk hB qb hD oD (by omega) t0 t1
    exact go (ps := [(zb.map (Value.int .u8), lb), (zd.map (Value.int .u8), ld)]) (r_lo_0_301 kind at' turn (zb.map (Value.int .u8)) (zd.map (Value.int .u8)) nb nd i v) hc (fun p hp => by rcases List.mem_cons.1 hp with rfl | hp; exact rb.fit; rw [List.mem_singleton] at hp; subst hp; exact rd.fit) (rb.rel (i := 0) rfl) (rd.rel (i := 1) rfl)
  by_cases qb : nb ≤ 300
  ·
    by_cases qd : nd = 0
    · have hc := k_lo_3_0 (kind := kind) (B := (zb.map (Value.int .u8))) (D := (zd.map (Value.int .u8))) hk hB oB (by omega) qb hD qd
      exact go (ps := [(zb.map (Value.int .u8), lb), (zd.map (Value.int .u8), ld)]) (r_lo_3_0 kind at' turn (zb.map (Value.int .u8)) (zd.map (Value.int .u8)) nb nd) hc (fun p hp => by rcases List.mem_cons.1 hp with rfl | hp; exact rb.fit; rw [List.mem_singleton] at hp; subst hp; exact rd.fit) (rb.rel (i := 0) rfl) (rd.rel (i := 1) rfl)
    by_cases qd : nd ≤ 100
    · obtain ⟨i, v, hc⟩ := k_lo_3_4 (kind := kind) (B := (zb.map (Value.int .u8))) (D := (zd.map (Value.int .u8))) (at' := at') hk hB oB (by omega) qb hD oD (by omega) qd t0 t1
      exact go (ps := [(zb.map (Value.int .u8), lb), (zd.map (Value.int .u8), ld)]) (r_lo_3_4 kind at' turn (zb.map (Value.int .u8)) (zd.map (Value.int .u8)) nb nd i v) hc (fun p hp => by rcases List.mem_cons.1 hp with rfl | hp; exact rb.fit; rw [List.mem_singleton] at hp; subst hp; exact rd.fit) (rb.rel (i := 0) rfl) (rd.rel (i := 1) rfl)
    by_cases qd : nd ≤ 300
    · obtain ⟨i, v, hc⟩ := k_lo_3_101 (kind := kind) (B := (zb.map (Value.int .u8))) (D := (zd.map (Value.int .u8))) (at' := at') hk hB oB (by omega) qb hD oD (by omega) qd t0 t1
      exact go (ps := [(zb.map (Value.int .u8), lb), (zd.map (Value.int .u8), ld)]) (r_lo_3_101 kind at' turn (zb.map (Value.int .u8)) (zd.map (Value.int .u8)) nb nd i v) hc (fun p hp => by rcases List.mem_cons.1 hp with rfl | hp; exact rb.fit; rw [List.mem_singleton] at hp; subst hp; exact rd.fit) (rb.rel (i := 0) rfl) (rd.rel (i := 1) rfl)
    obtain ⟨i, v, hc⟩ := k_lo_3_301 (kind := kind) (B := (zb.map (Value.int .u8))) (D := (zd.map (Value.int .u8))) (at' := at') hk hB oB (by omega) qb hD oD (by omega) t0 t1
    exact go (ps := [(zb.map (Value.int .u8), lb), (zd.map (Value.int .u8), ld)]) (r_lo_3_301 kind at' turn (zb.map (Value.int .u8)) (zd.map (Value.int .u8)) nb nd i v) hc (fun p hp => by rcases List.mem_cons.1 hp with rfl | hp; exact rb.fit; rw [List.mem_singleton] at hp; subst hp; exact rd.fit) (rb.rel (i := 0) rfl) (rd.rel (i := 1) rfl)
  by_cases qd : nd = 0
  · have hc := k_lo_301_0 (kind := kind) (B := (zb.map (Value.int .u8))) (D := (zd.map (Value.int .u8))) hk hB oB (by omega) hD qd
    exact go (ps := [(zb.map (Value.int .u8), lb), (zd.map (Value.int .u8), ld)]) (r_lo_301_0 kind at' turn (zb.map (Value.int .u8)) (zd.map (Value.int .u8)) nb nd) hc (fun p hp => by rcases List.mem_cons.1 hp with rfl | hp; exact rb.fit; rw [List.mem_singleton] at hp; subst hp; exact rd.fit) (rb.rel (i := 0) rfl) (rd.rel (i := 1) rfl)
  by_cases qd : nd ≤ 100
  · obtain ⟨i, v, hc⟩ := k_lo_301_4 (kind := kind) (B := (zb.map (Value.int .u8))) (D := (zd.map (Value.int .u8))) (at' := at') hk hB oB (by omega) hD oD (by omega) qd t0 t1
    exact go (ps := [(zb.map (Value.int .u8), lb), (zd.map (Value.int .u8), ld)]) (r_lo_301_4 kind at' turn (zb.map (Value.int .u8)) (zd.map (Value.int .u8)) nb nd i v) hc (fun p hp => by rcases List.mem_cons.1 hp with rfl | hp; exact rb.fit; rw [List.mem_singleton] at hp; subst hp; exact rd.fit) (rb.rel (i := 0) rfl) (rd.rel (i := 1) rfl)
  by_cases qd : nd ≤ 300
  · obtain ⟨i, v, hc⟩ := k_lo_301_101 (kind := kind) (B := (zb.map (Value.int .u8))) (D := (zd.map (Value.int .u8))) (at' := at') hk hB oB (by omega) hD oD (by omega) qd t0 t1
    exact go (ps := [(zb.map (Value.int .u8), lb), (zd.map (Value.int .u8), ld)]) (r_lo_301_101 kind at' turn (zb.map (Value.int .u8)) (zd.map (Value.int .u8)) nb nd i v) hc (fun p hp => by rcases List.mem_cons.1 hp with rfl | hp; exact rb.fit; rw [List.mem_singleton] at hp; subst hp; exact rd.fit) (rb.rel (i := 0) rfl) (rd.rel (i := 1) rfl)
  obtain ⟨i, v, hc⟩ := k_lo_301_301 (kind := kind) (B := (zb.map (Value.int .u8))) (D := (zd.map (Value.int .u8))) (at' := at') hk hB oB (by omega) hD oD (by omega) t0 t1
  exact go (ps := [(zb.map (Value.int .u8), lb), (zd.map (Value.int .u8), ld)]) (r_lo_301_301 kind at' turn (zb.map (Value.int .u8)) (zd.map (Value.int .u8)) nb nd i v) hc (fun p hp => by rcases List.mem_cons.1 hp with rfl | hp; exact rb.fit; rw [List.mem_singleton] at hp; subst hp; exact rd.fit) (rb.rel (i := 0) rfl) (rd.rel (i := 1) rfl)
theorem w_hi_None_None {W : World} {kind at' turn : Int} (hk : 4 < kind)  (t0 : 0 ≤ turn) (t1 : turn < 256) : Goal W [.int .i64 kind, .slice none 0 0, .slice none 0 0, .int .i64 at', .int .u8 turn] := by
  have hc := k_hi_None_None (kind := kind) hk
  exact go (ps := []) (r_hi_None_None kind at' turn) hc (fun p hp => nomatch hp) (.flat rfl) (.flat rfl)
theorem w_hi_None_row {W : World} {kind at' turn : Int} (hk : 4 < kind) {zd : List Int} {ld : Ev.Loc} {ad : Addr} {nd capd : Nat} (rd : Rw W zd ld ad nd capd) (t0 : 0 ≤ turn) (t1 : turn < 256) : Goal W [.int .i64 kind, .slice none 0 0, .slice (some ad) nd capd, .int .i64 at', .int .u8 turn] := by
  have hD : (zd.map (Value.int .u8)).length = nd := by rw [List.length_map]; exact rd.hlen
  have oD := ok_of rd.wf
  by_cases qd : nd = 0
  · have hc := k_hi_None_0 (kind := kind) (D := (zd.map (Value.int .u8))) hk hD qd
    exact go (ps := [(zd.map (Value.int .u8), ld)]) (r_hi_None_0 kind at' turn (zd.map (Value.int .u8)) nd) hc (fun p hp => by rw [List.mem_singleton] at hp; subst hp; exact rd.fit) (.flat rfl) (rd.rel (i := 0) rfl)
  by_cases qd : nd ≤ 100
  · obtain ⟨i, v, hc⟩ := k_hi_None_4 (kind := kind) (D := (zd.map (Value.int .u8))) (at' := at') hk hD oD (by omega) qd t0 t1
    exact go (ps := [(zd.map (Value.int .u8), ld)]) (r_hi_None_4 kind at' turn (zd.map (Value.int .u8)) nd i v) hc (fun p hp => by rw [List.mem_singleton] at hp; subst hp; exact rd.fit) (.flat rfl) (rd.rel (i := 0) rfl)
  by_cases qd : nd ≤ 300
  · obtain ⟨i, v, hc⟩ := k_hi_None_101 (kind := kind) (D := (zd.map (Value.int .u8))) (at' := at') hk hD oD (by omega) qd t0 t1
    exact go (ps := [(zd.map (Value.int .u8), ld)]) (r_hi_None_101 kind at' turn (zd.map (Value.int .u8)) nd i v) hc (fun p hp => by rw [List.mem_singleton] at hp; subst hp; exact rd.fit) (.flat rfl) (rd.rel (i := 0) rfl)
  obtain ⟨i, v, hc⟩ := k_hi_None_301 (kind := kind) (D := (zd.map (Value.int .u8))) (at' := at') hk hD oD (by omega) t0 t1
  exact go (ps := [(zd.map (Value.int .u8), ld)]) (r_hi_None_301 kind at' turn (zd.map (Value.int .u8)) nd i v) hc (fun p hp => by rw [List.mem_singleton] at hp; subst hp; exact rd.fit) (.flat rfl) (rd.rel (i := 0) rfl)
theorem w_hi_row_None {W : World} {kind at' turn : Int} (hk : 4 < kind) {zb : List Int} {lb : Ev.Loc} {ab : Addr} {nb capb : Nat} (rb : Rw W zb lb ab nb capb) (t0 : 0 ≤ turn) (t1 : turn < 256) : Goal W [.int .i64 kind, .slice (some ab) nb capb, .slice none 0 0, .int .i64 at', .int .u8 turn] := by
  have hB : (zb.map (Value.int .u8)).length = nb := by rw [List.length_map]; exact rb.hlen
  have oB := ok_of rb.wf
  by_cases qb : nb = 0
  ·
    have hc := k_hi_0_None (kind := kind) (B := (zb.map (Value.int .u8))) hk hB qb
    exact go (ps := [(zb.map (Value.int .u8), lb)]) (r_hi_0_None kind at' turn (zb.map (Value.int .u8)) nb) hc (fun p hp => by rw [List.mem_singleton] at hp; subst hp; exact rb.fit) (rb.rel (i := 0) rfl) (.flat rfl)
  by_cases qb : nb ≤ 300
  ·
    have hc := k_hi_3_None (kind := kind) (B := (zb.map (Value.int .u8))) hk hB oB (by omega) qb
    exact go (ps := [(zb.map (Value.int .u8), lb)]) (r_hi_3_None kind at' turn (zb.map (Value.int .u8)) nb) hc (fun p hp => by rw [List.mem_singleton] at hp; subst hp; exact rb.fit) (rb.rel (i := 0) rfl) (.flat rfl)
  have hc := k_hi_301_None (kind := kind) (B := (zb.map (Value.int .u8))) hk hB oB (by omega)
  exact go (ps := [(zb.map (Value.int .u8), lb)]) (r_hi_301_None kind at' turn (zb.map (Value.int .u8)) nb) hc (fun p hp => by rw [List.mem_singleton] at hp; subst hp; exact rb.fit) (rb.rel (i := 0) rfl) (.flat rfl)
theorem w_hi_row_row {W : World} {kind at' turn : Int} (hk : 4 < kind) {zb : List Int} {lb : Ev.Loc} {ab : Addr} {nb capb : Nat} (rb : Rw W zb lb ab nb capb) {zd : List Int} {ld : Ev.Loc} {ad : Addr} {nd capd : Nat} (rd : Rw W zd ld ad nd capd) (t0 : 0 ≤ turn) (t1 : turn < 256) : Goal W [.int .i64 kind, .slice (some ab) nb capb, .slice (some ad) nd capd, .int .i64 at', .int .u8 turn] := by
  have hB : (zb.map (Value.int .u8)).length = nb := by rw [List.length_map]; exact rb.hlen
  have oB := ok_of rb.wf
  have hD : (zd.map (Value.int .u8)).length = nd := by rw [List.length_map]; exact rd.hlen
  have oD := ok_of rd.wf
  by_cases qb : nb = 0
  ·
    by_cases qd : nd = 0
    · have hc := k_hi_0_0 (kind := kind) (B := (zb.map (Value.int .u8))) (D := (zd.map (Value.int .u8))) hk hB qb hD qd
      exact go (ps := [(zb.map (Value.int .u8), lb), (zd.map (Value.int .u8), ld)]) (r_hi_0_0 kind at' turn (zb.map (Value.int .u8)) (zd.map (Value.int .u8)) nb nd) hc (fun p hp => by rcases List.mem_cons.1 hp with rfl | hp; exact rb.fit; rw [List.mem_singleton] at hp; subst hp; exact rd.fit) (rb.rel (i := 0) rfl) (rd.rel (i := 1) rfl)
    by_cases qd : nd ≤ 100
    · obtain ⟨i, v, hc⟩ := k_hi_0_4 (kind := kind) (B := (zb.map (Value.int .u8))) (D := (zd.map (Value.int .u8))) (at' := at') hk hB qb hD oD (by omega) qd t0 t1
      exact go (ps := [(zb.map (Value.int .u8), lb), (zd.map (Value.int .u8), ld)]) (r_hi_0_4 kind at' turn (zb.map (Value.int .u8)) (zd.map (Value.int .u8)) nb nd i v) hc (fun p hp => by rcases List.mem_cons.1 hp with rfl | hp; exact rb.fit; rw [List.mem_singleton] at hp; subst hp; exact rd.fit) (rb.rel (i := 0) rfl) (rd.rel (i := 1) rfl)
    by_cases qd : nd ≤ 300
    · obtain ⟨i, v, hc⟩ := k_hi_0_101 (kind := kind) (B := (zb.map (Value.int .u8))) (D := (zd.map (Value.int .u8))) (at' := at') hk hB qb hD oD (by omega) qd t0 t1
      exact go (ps := [(zb.map (Value.int .u8), lb), (zd.map (Value.int .u8), ld)]) (r_hi_0_101 kind at' turn (zb.map (Value.int .u8)) (zd.map (Value.int .u8)) nb nd i v) hc (fun p hp => by rcases List.mem_cons.1 hp with rfl | hp; exact rb.fit; rw [List.mem_singleton] at hp; subst hp; exact rd.fit) (rb.rel (i := 0) rfl) (rd.rel (i := 1) rfl)
    obtain ⟨i, v, hc⟩ := k_hi_0_301 (kind := kind) (B := (zb.map (Value.int .u8))) (D := (zd.map (Value.int .u8))) (at' := at') hk hB qb hD oD (by omega) t0 t1
    exact go (ps := [(zb.map (Value.int .u8), lb), (zd.map (Value.int .u8), ld)]) (r_hi_0_301 kind at' turn (zb.map (Value.int .u8)) (zd.map (Value.int .u8)) nb nd i v) hc (fun p hp => by rcases List.mem_cons.1 hp with rfl | hp; exact rb.fit; rw [List.mem_singleton] at hp; subst hp; exact rd.fit) (rb.rel (i := 0) rfl) (rd.rel (i := 1) rfl)
  by_cases qb : nb ≤ 300
  ·
    by_cases qd : nd = 0
    · have hc := k_hi_3_0 (kind := kind) (B := (zb.map (Value.int .u8))) (D := (zd.map (Value.int .u8))) hk hB oB (by omega) qb hD qd
      exact go (ps := [(zb.map (Value.int .u8), lb), (zd.map (Value.int .u8), ld)]) (r_hi_3_0 kind at' turn (zb.map (Value.int .u8)) (zd.map (Value.int .u8)) nb nd) hc (fun p hp => by rcases List.mem_cons.1 hp with rfl | hp; exact rb.fit; rw [List.mem_singleton] at hp; subst hp; exact rd.fit) (rb.rel (i := 0) rfl) (rd.rel (i := 1) rfl)
    by_cases qd : nd ≤ 100
    · obtain ⟨i, v, hc⟩ := k_hi_3_4 (kind := kind) (B := (zb.map (Value.int .u8))) (D := (zd.map (Value.int .u8))) (at' := at') hk hB oB (by omega) qb hD oD (by omega) qd t0 t1
      exact go (ps := [(zb.map (Value.int .u8), lb), (zd.map (Value.int .u8), ld)]) (r_hi_3_4 kind at' turn (zb.map (Value.int .u8)) (zd.map (Value.int .u8)) nb nd i v) hc (fun p hp => by rcases List.mem_cons.1 hp with rfl | hp; exact rb.fit; rw [List.mem_singleton] at hp; subst hp; exact rd.fit) (rb.rel (i := 0) rfl) (rd.rel (i := 1) rfl)
    by_cases qd : nd ≤ 300
    · obtain ⟨i, v, hc⟩ := k_hi_3_101 (kind := kind) (B := (zb.map (Value.int .u8))) (D := (zd.map (Value.int .u8))) (at' := at') hk hB oB (by omega) qb hD oD (by omega) qd t0 t1
      exact go (ps := [(zb.map (Value.int .u8), lb), (zd.map (Value.int .u8), ld)]) (r_hi_3_101 kind at' turn (zb.map (Value.int .u8)) (zd.map (Value.int .u8)) nb nd i v) hc (fun p hp => by rcases List.mem_cons.1 hp with rfl | hp; exact rb.fit; rw [List.mem_singleton] at hp; subst hp; exact rd.fit) (rb.rel (i := 0) rfl) (rd.rel (i := 1) rfl)
    obtain ⟨i, v, hc⟩ := k_hi_3_301 (kind := kind) (B := (zb.map (Value.int .u8))) (D := (zd.map (Value.int .u8))) (at' := at') hk hB oB (by omega) qb hD oD (by omega) t0 t1
    exact go (ps := [(zb.map (Value.int .u8), lb), (zd.map (Value.int .u8), ld)]) (r_hi_3_301 kind at' turn (zb.map (Value.int .u8)) (zd.map (Value.int .u8)) nb nd i v) hc (fun p hp => by rcases List.mem_cons.1 hp with rfl | hp; exact rb.fit; rw [List.mem_singleton] at hp; subst hp; exact rd.fit) (rb.rel (i := 0) rfl) (rd.rel (i := 1) rfl)
  by_cases qd : nd = 0
  · have hc := k_hi_301_0 (kind := kind) (B := (zb.map (Value.int .u8))) (D := (zd.map (Value.int .u8))) hk hB oB (by omega) hD qd
    exact go (ps := [(zb.map (Value.int .u8), lb), (zd.map (Value.int .u8), ld)]) (r_hi_301_0 kind at' turn (zb.map (Value.int .u8)) (zd.map (Value.int .u8)) nb nd) hc (fun p hp => by rcases List.mem_cons.1 hp with rfl | hp; exact rb.fit; rw [List.mem_singleton] at hp; subst hp; exact rd.fit) (rb.rel (i := 0) rfl) (rd.rel (i := 1) rfl)
  by_cases qd : nd ≤ 100
  · obtain ⟨i, v, hc⟩ := k_hi_301_4 (kind := kind) (B := (zb.map (Value.int .u8))) (D := (zd.map (Value.int .u8))) (at' := at') hk hB oB (by omega) hD oD (by omega) qd t0 t1
    exact go (ps := [(zb.map (Value.int .u8), lb), (zd.map (Value.int .u8), ld)]) (r_hi_301_4 kind at' turn (zb.map (Value.int .u8)) (zd.map (Value.int .u8)) nb nd i v) hc (fun p hp => by rcases List.mem_cons.1 hp with rfl | hp; exact rb.fit; rw [List.mem_singleton] at hp; subst hp; exact rd.fit) (rb.rel (i := 0) rfl) (rd.rel (i := 1) rfl)
  by_cases qd : nd ≤ 300
  · obtain ⟨i, v, hc⟩ := k_hi_301_101 (kind := kind) (B := (zb.map (Value.int .u8))) (D := (zd.map (Value.int .u8))) (at' := at') hk hB oB (by omega) hD oD (by omega) qd t0 t1
    exact go (ps := [(zb.map (Value.int .u8), lb), (zd.map (Value.int .u8), ld)]) (r_hi_301_101 kind at' turn (zb.map (Value.int .u8)) (zd.map (Value.int .u8)) nb nd i v) hc (fun p hp => by rcases List.mem_cons.1 hp with rfl | hp; exact rb.fit; rw [List.mem_singleton] at hp; subst hp; exact rd.fit) (rb.rel (i := 0) rfl) (rd.rel (i := 1) rfl)
  obtain ⟨i, v, hc⟩ := k_hi_301_301 (kind := kind) (B := (zb.map (Value.int .u8))) (D := (zd.map (Value.int .u8))) (at' := at') hk hB oB (by omega) hD oD (by omega) t0 t1
  exact go (ps := [(zb.map (Value.int .u8), lb), (zd.map (Value.int .u8), ld)]) (r_hi_301_301 kind at' turn (zb.map (Value.int .u8)) (zd.map (Value.int .u8)) nb nd i v) hc (fun p hp => by rcases List.mem_cons.1 hp with rfl | hp; exact rb.fit; rw [List.mem_singleton] at hp; subst hp; exact rd.fit) (rb.rel (i := 0) rfl) (rd.rel (i := 1) rfl)
theorem w_ok_None_None {W : World} {kind at' turn : Int} (hk0 : 1 ≤ kind) (hk1 : kind ≤ 4)  (t0 : 0 ≤ turn) (t1 : turn < 256) : Goal W [.int .i64 kind, .slice none 0 0, .slice none 0 0, .int .i64 at', .int .u8 turn] := by
  obtain ⟨i, v, hc⟩ := k_ok_None_None (kind := kind) (at' := at') hk0 hk1 t0 t1
  exact go (ps := []) (r_ok_None_None kind at' turn i v) hc (fun p hp => nomatch hp) (.flat rfl) (.flat rfl)
theorem w_ok_None_row {W : World} {kind at' turn : Int} (hk0 : 1 ≤ kind) (hk1 : kind ≤ 4) {zd : List Int} {ld : Ev.Loc} {ad : Addr} {nd capd : Nat} (rd : Rw W zd ld ad nd capd) (t0 : 0 ≤ turn) (t1 : turn < 256) : Goal W [.int .i64 kind, .slice none 0 0, .slice (some ad) nd capd, .int .i64 at', .int .u8 turn] := by
  have hD : (zd.map (Value.int .u8)).length = nd := by rw [List.length_map]; exact rd.hlen
  have oD := ok_of rd.wf
  by_cases qd : nd = 0
  · obtain ⟨i, v, hc⟩ := k_ok_None_0 (kind := kind) (D := (zd.map (Value.int .u8))) (at' := at') hk0 hk1 hD qd t0 t1
    exact go (ps := [(zd.map (Value.int .u8), ld)]) (r_ok_None_0 kind at' turn (zd.map (Value.int .u8)) nd i v) hc (fun p hp => by rw [List.mem_singleton] at hp; subst hp; exact rd.fit) (.flat rfl) (rd.rel (i := 0) rfl)
  by_cases qd : nd ≤ 100
  · obtain ⟨i, v, hc⟩ := k_ok_None_4 (kind := kind) (D := (zd.map (Value.int .u8))) (at' := at') hk0 hk1 hD oD (by omega) qd t0 t1
    exact go (ps := [(zd.map (Value.int .u8), ld)]) (r_ok_None_4 kind at' turn (zd.map (Value.int .u8)) nd i v) hc (fun p hp => by rw [List.mem_singleton] at hp; subst hp; exact rd.fit) (.flat rfl) (rd.rel (i := 0) rfl)
  by_cases qd : nd ≤ 300
  · obtain ⟨i, v, hc⟩ := k_ok_None_101 (kind := kind) (D := (zd.map (Value.int .u8))) (at' := at') hk0 hk1 hD oD (by omega) qd t0 t1
    exact go (ps := [(zd.map (Value.int .u8), ld)]) (r_ok_None_101 kind at' turn (zd.map (Value.int .u8)) nd i v) hc (fun p hp => by rw [List.mem_singleton] at hp; subst hp; exact rd.fit) (.flat rfl) (rd.rel (i := 0) rfl)
  obtain ⟨i, v, hc⟩ := k_ok_None_301 (kind := kind) (D := (zd.map (Value.int .u8))) (at' := at') hk0 hk1 hD oD (by omega) t0 t1
  exact go (ps := [(zd.map (Value.int .u8), ld)]) (r_ok_None_301 kind at' turn (zd.map (Value.int .u8)) nd i v) hc (fun p hp => by rw [List.mem_singleton] at hp; subst hp; exact rd.fit) (.flat rfl) (rd.rel (i := 0) rfl)
theorem w_ok_row_None {W : World} {kind at' turn : Int} (hk0 : 1 ≤ kind) (hk1 : kind ≤ 4) {zb : List Int} {lb : Ev.Loc} {ab : Addr} {nb capb : Nat} (rb : Rw W zb lb ab nb capb) (t0 : 0 ≤ turn) (t1 : turn < 256) : Goal W [.int .i64 kind, .slice (some ab) nb capb, .slice none 0 0, .int .i64 at', .int .u8 turn] := by
  have hB : (zb.map (Value.int .u8)).length = nb := by rw [List.length_map]; exact rb.hlen
  have oB := ok_of rb.wf
  by_cases qb : nb = 0
  ·
    obtain ⟨i, v, hc⟩ := k_ok_0_None (kind := kind) (B := (zb.map (Value.int .u8))) (at' := at') hk0 hk1 hB qb t0 t1
    exact go (ps := [(zb.map (Value.int .u8), lb)]) (r_ok_0_None kind at' turn (zb.map (Value.int .u8)) nb i v) hc (fun p hp => by rw [List.mem_singleton] at hp; subst hp; exact rb.fit) (rb.rel (i := 0) rfl) (.flat rfl)
  by_cases qb : nb ≤ 300
  ·
    obtain ⟨i, v, cs, l, hc⟩ := k_ok_3_None (kind := kind) (B := (zb.map (Value.int .u8))) (at' := at') hk0 hk1 hB oB (by omega) qb t0 t1
    exact go (ps := [(zb.map (Value.int .u8), lb)]) (r_ok_3_None kind at' turn (zb.map (Value.int .u8)) nb i v cs l) hc (fun p hp => by rw [List.mem_singleton] at hp; subst hp; exact rb.fit) (rb.rel (i := 0) rfl) (.flat rfl)
  obtain ⟨i, v, cs, l, hc⟩ := k_ok_301_None (kind := kind) (B := (zb.map (Value.int .u8))) (at' := at') hk0 hk1 hB oB (by omega) t0 t1
  exact go (ps := [(zb.map (Value.int .u8), lb)]) (r_ok_301_None kind at' turn (zb.map (Value.int .u8)) nb i v cs l) hc (fun p hp => by rw [List.mem_singleton] at hp; subst hp; exact rb.fit) (rb.rel (i := 0) rfl) (.flat rfl)
theorem w_ok_row_row {W : World} {kind at' turn : Int} (hk0 : 1 ≤ kind) (hk1 : kind ≤ 4) {zb : List Int} {lb : Ev.Loc} {ab : Addr} {nb capb : Nat} (rb : Rw W zb lb ab nb capb) {zd : List Int} {ld : Ev.Loc} {ad : Addr} {nd capd : Nat} (rd : Rw W zd ld ad nd capd) (t0 : 0 ≤ turn) (t1 : turn < 256) : Goal W [.int .i64 kind, .slice (some ab) nb capb, .slice (some ad) nd capd, .int .i64 at', .int .u8 turn] := by
  have hB : (zb.map (Value.int .u8)).length = nb := by rw [List.length_map]; exact rb.hlen
  have oB := ok_of rb.wf
  have hD : (zd.map (Value.int .u8)).length = nd := by rw [List.length_map]; exact rd.hlen
  have oD := ok_of rd.wf
  by_cases qb : nb = 0
  ·
    by_cases qd : nd = 0
    · obtain ⟨i, v, hc⟩ := k_ok_0_0 (kind := kind) (B := (zb.map (Value.int .u8))) (D := (zd.map (Value.int .u8))) (at' := at') hk0 hk1 hB qb hD qd t0 t1
      exact go (ps := [(zb.map (Value.int .u8), lb), (zd.map (Value.int .u8), ld)]) (r_ok_0_0 kind at' turn (zb.map (Value.int .u8)) (zd.map (Value.int .u8)) nb nd i v) hc (fun p hp => by rcases List.mem_cons.1 hp with rfl | hp; exact rb.fit; rw [List.mem_singleton] at hp; subst hp; exact rd.fit) (rb.rel (i := 0) rfl) (rd.rel (i := 1) rfl)
    by_cases qd : nd ≤ 100
    · obtain ⟨i, v, hc⟩ := k_ok_0_4 (kind := kind) (B := (zb.map (Value.int .u8))) (D := (zd.map (Value.int .u8))) (at' := at') hk0 hk1 hB qb hD oD (by omega) qd t0 t1
      exact go (ps := [(zb.map (Value.int .u8), lb), (zd.map (Value.int .u8), ld)]) (r_ok_0_4 kind at' turn (zb.map (Value.int .u8)) (zd.map (Value.int .u8)) nb nd i v) hc (fun p hp => by rcases List.mem_cons.1 hp with rfl | hp; exact rb.fit; rw [List.mem_singleton] at hp; subst hp; exact rd.fit) (rb.rel (i := 0) rfl) (rd.rel (i := 1) rfl)
    by_cases qd : nd ≤ 300
    · obtain ⟨i, v, hc⟩ := k_ok_0_101 (kind := kind) (B := (zb.map (Value.int .u8))) (D := (zd.map (Value.int .u8))) (at' := at') hk0 hk1 hB qb hD oD (by omega) qd t0 t1
      exact go (ps := [(zb.map (Value.int .u8), lb), (zd.map (Value.int .u8), ld)]) (r_ok_0_101 kind at' turn (zb.map (Value.int .u8)) (zd.map (Value.int .u8)) nb nd i v) hc (fun p hp => by rcases List.mem_cons.1 hp with rfl | hp; exact rb.fit; rw [List.mem_singleton] at hp; subst hp; exact rd.fit) (rb.rel (i := 0) rfl) (rd.rel (i := 1) rfl)
    obtain ⟨i, v, hc⟩ := k_ok_0_301 (kind := kind) (B := (zb.map (Value.int .u8))) (D := (zd.map (Value.int .u8))) (at' := at') hk0 hk1 hB qb hD oD (by omega) t0 t1
    exact go (ps := [(zb.map (Value.int .u8), lb), (zd.map (Value.int .u8), ld)]) (r_ok_0_301 kind at' turn (zb.map (Value.int .u8)) (zd.map (Value.int .u8)) nb nd i v) hc (fun p hp => by rcases List.mem_cons.1 hp with rfl | hp; exact rb.fit; rw [List.mem_singleton] at hp; subst hp; exact rd.fit) (rb.rel (i := 0) rfl) (rd.rel (i := 1) rfl)
  by_cases qb : nb ≤ 300
  ·
    by_cases qd : nd = 0
    · obtain ⟨i, v, cs, l, hc⟩ := k_ok_3_0 (kind := kind) (B := (zb.map (Value.int .u8))) (D := (zd.map (Value.int .u8))) (at' := at') hk0 hk1 hB oB (by omega) qb hD qd t0 t1
      exact go (ps := [(zb.map (Value.int .u8), lb), (zd.map (Value.int .u8), ld)]) (r_ok_3_0 kind at' turn (zb.map (Value.int .u8)) (zd.map (Value.int .u8)) nb nd i v cs l) hc (fun p hp => by rcases List.mem_cons.1 hp with rfl | hp; exact rb.fit; rw [List.mem_singleton] at hp; subst hp; exact rd.fit) (rb.rel (i := 0) rfl) (rd.rel (i := 1) rfl)
    by_cases qd : nd ≤ 100
    · obtain ⟨i, v, cs, l, hc⟩ := k_ok_3_4 (kind := kind) (B := (zb.map (Value.int .u8))) (D := (zd.map (Value.int .u8))) (at' := at') hk0 hk1 hB oB (by omega) qb hD oD (by omega) qd t0 t1
      exact go (ps := [(zb.map (Value.int .u8), lb), (zd.map (Value.int .u8), ld)]) (r_ok_3_4 kind at' turn (zb.map (Value.int .u8)) (zd.map (Value.int .u8)) nb nd i v cs l) hc (fun p hp => by rcases List.mem_cons.1 hp with rfl | hp; exact rb.fit; rw [List.mem_singleton] at hp; subst hp; exact rd.fit) (rb.rel (i := 0) rfl) (rd.rel (i := 1) rfl)
    by_cases qd : nd ≤ 300
    · obtain ⟨i, v, cs, l, hc⟩ := k_ok_3_101 (kind := kind) (B := (zb.map (Value.int .u8))) (D := (zd.map (Value.int .u8))) (at' := at') hk0 hk1 hB oB (by omega) qb hD oD (by omega) qd t0 t1
      exact go (ps := [(zb.map (Value.int .u8), lb), (zd.map (Value.int .u8), ld)]) (r_ok_3_101 kind at' turn (zb.map (Value.int .u8)) (zd.map (Value.int .u8)) nb nd i v cs l) hc (fun p hp => by rcases List.mem_cons.1 hp with rfl | hp; exact rb.fit; rw [List.mem_singleton] at hp; subst hp; exact rd.fit) (rb.rel (i := 0) rfl) (rd.rel (i := 1) rfl)
    obtain ⟨i, v, cs, l, hc⟩ := k_ok_3_301 (kind := kind) (B := (zb.map (Value.int .u8))) (D := (zd.map (Value.int .u8))) (at' := at') hk0 hk1 hB oB (by omega) qb hD oD (by omega) t0 t1
    exact go (ps := [(zb.map (Value.int .u8), lb), (zd.map (Value.int .u8), ld)]) (r_ok_3_301 kind at' turn (zb.map (Value.int .u8)) (zd.map (Value.int .u8)) nb nd i v cs l) hc (fun p hp => by rcases List.mem_cons.1 hp with rfl | hp; exact rb.fit; rw [List.mem_singleton] at hp; subst hp; exact rd.fit) (rb.rel (i := 0) rfl) (rd.rel (i := 1) rfl)
  by_cases qd : nd = 0
  · obtain ⟨i, v, cs, l, hc⟩ := k_ok_301_0 (kind := kind) (B := (zb.map (Value.int .u8))) (D := (zd.map (Value.int .u8))) (at' := at') hk0 hk1 hB oB (by omega) hD qd t0 t1
    exact go (ps := [(zb.map (Value.int .u8), lb), (zd.map (Value.int .u8), ld)]) (r_ok_301_0 kind at' turn (zb.map (Value.int .u8)) (zd.map (Value.int .u8)) nb nd i v cs l) hc (fun p hp => by rcases List.mem_cons.1 hp with rfl | hp; exact rb.fit; rw [List.mem_singleton] at hp; subst hp; exact rd.fit) (rb.rel (i := 0) rfl) (rd.rel (i := 1) rfl)
  by_cases qd : nd ≤ 100
  · obtain ⟨i, v, cs, l, hc⟩ := k_ok_301_4 (kind := kind) (B := (zb.map (Value.int .u8))) (D := (zd.map (Value.int .u8))) (at' := at') hk0 hk1 hB oB (by omega) hD oD (by omega) qd t0 t1
    exact go (ps := [(zb.map (Value.int .u8), lb), (zd.map (Value.int .u8), ld)]) (r_ok_301_4 kind at' turn (zb.map (Value.int .u8)) (zd.map (Value.int .u8)) nb nd i v cs l) hc (fun p hp => by rcases List.mem_cons.1 hp with rfl | hp; exact rb.fit; rw [List.mem_singleton] at hp; subst hp; exact rd.fit) (rb.rel (i := 0) rfl) (rd.rel (i := 1) rfl)
  by_cases qd : nd ≤ 300
  · obtain ⟨i, v, cs, l, hc⟩ := k_ok_301_101 (kind := kind) (B := (zb.map (Value.int .u8))) (D := (zd.map (Value.int .u8))) (at' := at') hk0 hk1 hB oB (by omega) hD oD (by omega) qd t0 t1
    exact go (ps := [(zb.map (Value.int .u8), lb), (zd.map (Value.int .u8), ld)]) (r_ok_301_101 kind at' turn (zb.map (Value.int .u8)) (zd.map (Value.int .u8)) nb nd i v cs l) hc (fun p hp => by rcases List.mem_cons.1 hp with rfl | hp; exact rb.fit; rw [List.mem_singleton] at hp; subst hp; exact rd.fit) (rb.rel (i := 0) rfl) (rd.rel (i := 1) rfl)
  obtain ⟨i, v, cs, l, hc⟩ := k_ok_301_301 (kind := kind) (B := (zb.map (Value.int .u8))) (D := (zd.map (Value.int .u8))) (at' := at') hk0 hk1 hB oB (by omega) hD oD (by omega) t0 t1
  exact go (ps := [(zb.map (Value.int .u8), lb), (zd.map (Value.int .u8), ld)]) (r_ok_301_301 kind at' turn (zb.map (Value.int .u8)) (zd.map (Value.int .u8)) nb nd i v cs l) hc (fun p hp => by rcases List.mem_cons.1 hp with rfl | hp; exact rb.fit; rw [List.mem_singleton] at hp; subst hp; exact rd.fit) (rb.rel (i := 0) rfl) (rd.rel (i := 1) rfl)
theorem walk (a0 : Int) (v1 v2 : Value) (a3 a4 : Int) (_ : (Lit.int .i64 a0).wf = true) (_ : (Lit.int .i64 a3).wf = true) (w4 : (Lit.int .u8 a4).wf = true) (W : World) (s1 : IntsArg W .u8 v1) (s2 : IntsArg W .u8 v2) :
    Calls Try.prog 8 #[.int .i64 a0, v1, v2, .int .i64 a3, .int .u8 a4] W fun e W' => e = .returned (.bool true) ∧ Below W.heap.size W W' := by
  have t : 0 ≤ a4 ∧ a4 < 256 := by
    simp [Lit.wf, IntKind.min, IntKind.max, IntKind.signed, IntKind.bits] at w4
    omega
  have kinds : a0 < 1 ∨ 4 < a0 ∨ (1 ≤ a0 ∧ a0 ≤ 4) := by omega
  rcases s1 with rfl | ⟨ab, nb, capb, zb, lb, rfl, b1, b2, b3, b4, b5, b6, b7⟩ <;> rcases s2 with rfl | ⟨ad, nd, capd, zd, ld, rfl, d1, d2, d3, d4, d5, d6, d7⟩
  · rcases kinds with hk | hk | ⟨h0, h1⟩
    · exact w_lo_None_None hk t.1 t.2
    · exact w_hi_None_None hk t.1 t.2
    · exact w_ok_None_None h0 h1 t.1 t.2
  · have rd : Rw W zd ld ad nd capd := ⟨d1, d2, d3, d4, d5, d6, d7⟩
    rcases kinds with hk | hk | ⟨h0, h1⟩
    · exact w_lo_None_row hk rd t.1 t.2
    · exact w_hi_None_row hk rd t.1 t.2
    · exact w_ok_None_row h0 h1 rd t.1 t.2
  · have rb : Rw W zb lb ab nb capb := ⟨b1, b2, b3, b4, b5, b6, b7⟩
    rcases kinds with hk | hk | ⟨h0, h1⟩
    · exact w_lo_row_None hk rb t.1 t.2
    · exact w_hi_row_None hk rb t.1 t.2
    · exact w_ok_row_None h0 h1 rb t.1 t.2
  · have rb : Rw W zb lb ab nb capb := ⟨b1, b2, b3, b4, b5, b6, b7⟩
    have rd : Rw W zd ld ad nd capd := ⟨d1, d2, d3, d4, d5, d6, d7⟩
    rcases kinds with hk | hk | ⟨h0, h1⟩
    · exact w_lo_row_row hk rb rd t.1 t.2
    · exact w_hi_row_row hk rb rd t.1 t.2
    · exact w_ok_row_row h0 h1 rb rd t.1 t.2
end FrameTl
end Go.Proofs.Ytddlejbcnjmfmaa
