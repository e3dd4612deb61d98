/- Several texts in one: CutW, CutX, CutY, CutZ, ChgA, ChgB, ChgC, ChgD, ChgE. -/
import Derived.Test.YtecibbokbonmcaeGreatKAll6
/- cut: a room of whatever size is cloned; a state with no books is lightened and settled; from what the call made to what lies apart from its books. -/
namespace Go.Proofs.YtecibbokbonmcaeGreat
open Go.RowKit

set_option maxRecDepth 100000 in
set_option maxHeartbeats 1000000 in
theorem CloneRuns_big (w : World) (a : Option Addr) (n c : Nat) (news : List Value) (hl : news.length = n * 2) (hn : n ≤ 1048576) (hc : ∀ ad, a = some ad → ∀ j u, news[j]? = some u → w.cell? (ad.add j) = some u) (h1 : ∀ u ∈ news, u.oneCell' = true) (h0 : a = none → n = 0) :
    Calls Tryz.prog 35 #[.slice a n c] w fun e w' => ∃ v', e = .returned v' ∧ w'.ownsRow w.heap.size 71 2 v' n news ∧ Below w.heap.size w w' := by
  have qe : ∀ (w : World) (a : Option Addr) (n c n' c' : Nat), (binOp .eql 26 (.slice a n c) (.slice none n' c')).run Tryz.prog w = .ok (.bool a.isNone) w := fun w a n c n' c' => Lib.run_eql_slice_nil w _ _ a n c n' c' Tryz.underlying26
  obtain ⟨i0, hi, e⟩ := Option.map_eq_some_iff.1 (show (Tryz.prog.info? 71).map (fun i => (i.zero, i.size, i.bytes)) = some (some (.agg #[.int .i64 0, .int .i64 0]), 2, 16) from by kernel_rfl)
  simp only [Prod.mk.injEq] at e
  obtain ⟨e1, e2, e3⟩ := e
  cases a with
  | none =>
    obtain rfl := h0 rfl
    have hnil : news = [] := List.length_eq_zero_iff.1 (by omega)
    subst hnil
    go_enter Tryz.func35, Tryz.ntmps35
    go_wp2
    go_ret
    exact ⟨_, rfl, World.ownsRow_nil _ _ _ _, Below.refl _ _⟩
  | some ad =>
    have HC := hid (hc ad rfl)
    clear hc h0
    go_enter Tryz.func35, Tryz.ntmps35
    go_wp2_with (at_builtin; refine wpList_append_own _ rfl _ _ 26 rfl w.heap.size 71 i0 _ 2 16 Tryz.underlying26 hi e1 e2 e3 (by rfl) (by omega) _ _ _ rfl (World.ownsRow_made w #[] 0 (Nat.le_refl _) (Nat.zero_le _) (by simp)) ad n c news rfl ?qc1 ?qc2 ?qc3 ?qc4 ?qc5 ?qc6 ?_)
    case qc1 => exact hl
    case qc2 =>
      intro j u hj
      exact cell_later ((Below.refl _ _).alloc (Nat.le_refl _) _) (HC.out j u hj)
    case qc3 => exact h1
    case qc4 => simp only [maxLen]; omega
    case qc5 => omega
    case qc6 => simp
    intro v' w1 hown hgrow hnil
    go_wp2
    go_ret
    refine ⟨v', rfl, by simpa using hown, ?_⟩
    exact ((Below.refl _ w).alloc (Nat.le_refl _) _).grown hgrow (by simp) (by intro k hk; simp [Value.ownBlock] at hk; omega)
theorem own_pairs_big {w : World} {B : Nat} {v : Value} {l : RunL} (h : w.ownsRow B 71 2 v l.length (cellsOf l)) (hm : l.length ≤ 1048576) : ∃ a cap, v = .slice a l.length cap ∧ RunsP w a l.length cap l ∧ ∀ b off, a = some ⟨b, off, none⟩ → B ≤ b ∧ off = 0 := by
  rcases h.2 with ⟨rfl, hn⟩ | ⟨g, cap, cur, rfl, hB, hg, hle, hmx, hs, ht⟩
  · refine ⟨none, 0, by rw [hn], ⟨⟨rfl, by omega, by omega, by omega, fun hp => by omega⟩, fun b off e => by cases e⟩, fun b off e => by cases e⟩
  · refine ⟨some ⟨g, 0, none⟩, cap, rfl, ⟨⟨rfl, hle, by omega, by simpa [maxLen] using hmx, fun hp => ⟨g, 0, rfl, fun i hi => ?_⟩⟩, fun b off e _ => by
      injection e with e
      injection e with e1 e2
      subst e1
      exact ⟨_, _, _, hg, by decide, by decide, by decide⟩⟩, fun b off e => by
      injection e with e
      injection e with e1 e2
      exact ⟨by omega, e2.symm⟩⟩
    have key : ∀ k u, (cellsOf l)[k]? = some u → w.cell? ⟨g, k, none⟩ = some u := by
      intro k u hu
      rw [← ht, List.getElem?_take] at hu
      split at hu
      · rw [cell_of_row w g k cur _ (0, 0) hg]
        simpa using hu
      · cases hu
    exact ⟨by rw [Nat.zero_add]; exact key _ _ (cellsOf_even l i hi), by rw [Nat.zero_add]; exact key _ _ (cellsOf_odd l i hi)⟩
theorem CloneRuns_upto (w : World) (a : Option Addr) (n cap : Nat) (l : RunL) (h : RunsIn w a n cap l) (hn : n ≤ 1048576) :
    Calls Tryz.prog 35 #[.slice a n cap] w fun e w' => ∃ a' c', e = .returned (.slice a' n c') ∧ RunsP w' a' n c' l ∧ Below w.heap.size w w' ∧ ∀ b off, a' = some ⟨b, off, none⟩ → w.heap.size ≤ b := by
  refine (CloneRuns_big w a n cap (cellsOf l) (by rw [cellsOf_length, h.len]) hn ?_ (cellsOf_one l) ?_).mono ?_
  · rintro ad rfl j u hu
    exact h.list j u hu
  · rintro rfl
    by_cases e : 0 < n
    · obtain ⟨b, off, e, _⟩ := h.cells e
      cases e
    · omega
  · rintro e w' ⟨v', rfl, hO, hb⟩
    obtain ⟨a', c', rfl, h1, h2⟩ := own_pairs_big (l := l) (h.len ▸ hO) (by have := h.len; omega)
    exact ⟨a', c', by rw [h.len], by rw [h.len]; exact h1, hb, fun b off e => (h2 b off e).1⟩

theorem cell_off {g : Nat} {w : World} {p : Addr} {v : Value} (h : w.cell? p = some v) (hne : p.block ≠ g) : (Off g w).cell? p = some v :=
  (World.cell?_of_block (w := w) (w' := Off g w) (World.putObj_heap_other hne)).trans h
theorem RunsIn.off {g : Nat} {w : World} {a : Option Addr} {n cap : Nat} {l : RunL} (h : RunsIn w a n cap l) (hne : 0 < n → ∀ b off, a = some ⟨b, off, none⟩ → b ≠ g) : RunsIn (Off g w) a n cap l := by
  refine ⟨h.len, h.le, h.bound, h.capb, fun hp => ?_⟩
  obtain ⟨b, off, ha, hc⟩ := h.cells hp
  exact ⟨b, off, ha, fun i hi => ⟨cell_off (hc i hi).1 (hne hp b off ha), cell_off (hc i hi).2 (hne hp b off ha)⟩⟩
theorem QsIn.off {g : Nat} {w : World} {a : Option Addr} {n cap : Nat} {l : QL} (h : QsIn w a n cap l) (hne : 0 < n → ∀ b off, a = some ⟨b, off, none⟩ → b ≠ g) (hc : ∀ i, i < n → 0 < (qu l i).cn → ∀ b off, (qu l i).ca = some ⟨b, off, none⟩ → b ≠ g) : QsIn (Off g w) a n cap l := by
  refine ⟨h.len, h.le, h.capb, fun hp => ?_, fun i hi => (h.caps i hi).off (hc i hi), h.names⟩
  obtain ⟨b, off, ha, hk⟩ := h.cells hp
  exact ⟨b, off, ha, fun i hi => ⟨cell_off (hk i hi).1 (hne hp b off ha), cell_off (hk i hi).2.1 (hne hp b off ha), cell_off (hk i hi).2.2 (hne hp b off ha)⟩⟩

/-- of no books nothing is too much -/
theorem over_nil {l : QL} (h : Clean l []) {q : Nat} (hq : q < l.length) {t : Int} (h0 : 0 ≤ t) (h1 : t < 48) : overI l [] t q = false := by
  cases e : overI l [] t q with
  | false => rfl
  | true => have := over_some h hq h0 h1 e; cases this
set_option maxRecDepth 100000 in
set_option maxHeartbeats 4000000 in
theorem lighten_nil (w : World) (c n : Int) (ta : Option Addr) (tn tc : Nat) (l : QL) (ba : Option Addr) (k0 : Nat) (hc : Clean l []) (h0 : 0 ≤ c) (h1 : c ≤ 48) (hS : StIn w ta tn tc l ba 0 k0 []) :
    Calls Tryz.prog 37 #[.agg #[.int .i64 c, .int .i64 n, .slice ta tn tc, .slice ba 0 k0]] w fun e w' => e = .returned (.tuple #[.agg #[.int .i64 c, .int .i64 n, .slice ta tn tc, .slice ba 0 k0], .slice none 0 0]) ∧ Below w.heap.size w w' := by
  obtain ⟨S, hSz⟩ : ∃ S, w.heap.size = S := ⟨_, rfl⟩
  obtain ⟨W1, hW1⟩ : ∃ W1, W1 = (w.alloc (.cells #[.int .i64 c, .int .i64 n, .slice ta tn tc, .slice ba 0 k0] 25)).alloc (.cells #[.int .i64 0, .int .i64 0, .slice none 0 0, .slice none 0 0] 25) := ⟨_, rfl⟩
  obtain ⟨x1, x2, hb0, hsz⟩ := st_res w _ _ _ _ hW1
  rw [hSz] at x1 x2 hsz
  have KF := hid (first_any W1 c n ta tn tc l ba 0 k0 [] (hS.later hb0) (chkL_clean hc) h0 h1)
  have HW1 := hid hW1
  have X1 := hid x1
  have X2 := hid x2
  have HB0 := hid hb0
  have HC := hid hc
  have HTL := hid hS.1.len
  obtain ⟨c0, c1, c2, c3⟩ := x1.cells
  have d0 := c0
  have d1 := c1
  have d2 := c2
  have d3 := c3
  rw [hW1] at d0 d1 d2 d3
  clear x1 x2 hb0 hsz hW1 hS hc c0 c1 c2 c3
  go_enter Tryz.func37, Tryz.ntmps37
  go_wp2
  go_loopw [4] (fun (p : Value) wr => p = .slice none 0 0 ∧ wr = W1) (fun _ _ => 0)
  case atStart => exact ⟨rfl, HW1.out.symm⟩
  case round =>
    obtain ⟨rfl, rfl⟩ := hrel
    obtain ⟨c0, c1, c2, c3⟩ := X1.out.cells
    go_wp2_with fail
    refine KF.out.mono ?_
    rintro e w1 ⟨t, q, f, rfl, hans, hb⟩
    cases f with
    | true =>
      exfalso
      rcases hans with ⟨e, _⟩ | ⟨_, t0, t1, kq, hkq, rfl, ho, hf1, hf2⟩
      · cases e
      · rw [over_nil HC.out (by have := HTL.out; omega) (by omega) t1] at ho
        cases ho
    | false =>
      obtain ⟨d0, d1, d2, d3⟩ := (X1.out.later hb).cells
      have HR1 := hid (X2.out.later hb)
      have HB1 := hid (below_from HB0.out hb)
      obtain ⟨y0, y1, y2, y3⟩ := HR1.out.cells
      have yf : ∀ k, w1.frozen? ⟨S + 1, k, none⟩ = false := fun k => frozen_of_row w1 (S + 1) k _ _ HR1.out
      clear hans hb c0 c1 c2 c3
      go_wp2
      have hst := four_stores w1 (S + 1) 25 _ _ _ _ (.int .i64 c) (.int .i64 n) (.slice ta tn tc) (.slice ba 0 k0) HR1.out
      refine bodyPost_ret (v := .tuple #[.agg #[.int .i64 c, .int .i64 n, .slice ta tn tc, .slice ba 0 k0], .slice none 0 0]) (results_row_tmp Tryz.results37 _ _ (S + 1) 25 #[.int .i64 c, .int .i64 n, .slice ta tn tc, .slice ba 0 k0] (0, 0) _ rfl hst.1 Tryz.underlying25 rfl (by kernel_rfl)) rfl ⟨rfl, ?_⟩
      have h4 : w.heap.size ≤ S + 1 := by omega
      exact ((((HB1.out.setCell (p := ⟨S + 1, 0, none⟩) h4 _).setCell (p := ⟨S + 1, 1, none⟩) h4 _).setCell (p := ⟨S + 1, 2, none⟩) h4 _).setCell (p := ⟨S + 1, 3, none⟩) h4 _)
set_option maxRecDepth 100000 in
set_option maxHeartbeats 4000000 in
theorem settle_nil (w : World) (c n : Int) (ta : Option Addr) (tn tc : Nat) (ba : Option Addr) (m0 k0 : Nat) :
    Calls Tryz.prog 38 #[.agg #[.int .i64 c, .int .i64 n, .slice ta tn tc, .slice ba m0 k0], .slice none 0 0] w fun e w' => e = .returned (.tuple #[.agg #[.int .i64 c, .int .i64 n, .slice ta tn tc, .slice ba m0 k0], .slice none 0 0, .slice none 0 0]) ∧ Below w.heap.size w w' := by
  obtain ⟨S, hSz⟩ : ∃ S, w.heap.size = S := ⟨_, rfl⟩
  obtain ⟨W1, hW1⟩ : ∃ W1, W1 = (w.alloc (.cells #[.int .i64 c, .int .i64 n, .slice ta tn tc, .slice ba m0 k0] 25)).alloc (.cells #[.int .i64 0, .int .i64 0, .slice none 0 0, .slice none 0 0] 25) := ⟨_, rfl⟩
  obtain ⟨x1, x2, hb0, hsz⟩ := st_res w _ _ _ _ hW1
  rw [hSz] at x1 x2 hsz
  have HW1 := hid hW1
  have X1 := hid x1
  have X2 := hid x2
  have HB0 := hid hb0
  clear x1 x2 hb0 hsz hW1
  go_enter Tryz.func38, Tryz.ntmps38
  go_wp2
  go_loopw [7, 8, 15] (fun (p q r : Value) wr => p = .slice none 0 0 ∧ q = .slice none 0 0 ∧ r = .int .i64 0 ∧ wr = W1) (fun _ _ _ _ => 0)
  case atStart => exact ⟨rfl, rfl, rfl, HW1.out.symm⟩
  case round =>
    obtain ⟨rfl, rfl, rfl, rfl⟩ := hrel
    obtain ⟨d0, d1, d2, d3⟩ := X1.out.cells
    obtain ⟨y0, y1, y2, y3⟩ := X2.out.cells
    have yf : ∀ k, wr.frozen? ⟨S + 1, k, none⟩ = false := fun k => frozen_of_row wr (S + 1) k _ _ X2.out
    go_wp2
    have hst := four_stores wr (S + 1) 25 _ _ _ _ (.int .i64 c) (.int .i64 n) (.slice ta tn tc) (.slice ba m0 k0) X2.out
    refine bodyPost_ret (v := .tuple #[.agg #[.int .i64 c, .int .i64 n, .slice ta tn tc, .slice ba m0 k0], .slice none 0 0, .slice none 0 0]) (results_row_tmp2 Tryz.results38 _ _ (S + 1) 25 #[.int .i64 c, .int .i64 n, .slice ta tn tc, .slice ba m0 k0] (0, 0) _ rfl hst.1 Tryz.underlying25 rfl (by kernel_rfl)) rfl ⟨rfl, ?_⟩
    have h4 : w.heap.size ≤ S + 1 := by omega
    exact ((((HB0.out.setCell (p := ⟨S + 1, 0, none⟩) h4 _).setCell (p := ⟨S + 1, 1, none⟩) h4 _).setCell (p := ⟨S + 1, 2, none⟩) h4 _).setCell (p := ⟨S + 1, 3, none⟩) h4 _)
end Go.Proofs.YtecibbokbonmcaeGreat

/- cut.Change, ahead of it: what lies apart from some blocks; the queues with the new Cap; what is asked of it. -/
namespace Go.Proofs.YtecibbokbonmcaeGreat
open Go.RowKit

theorem results_row_tmp3 {P : Program} {fn : Func} {p u v x : Tmp} {ty : TypeId} (h : fn.results = #[.cell p ty, .tmp u, .tmp v, .tmp x]) (tmps : Array Value) (w : World) (g : Nat) (t : TypeId) (cs : Array Value) (fr : Nat × Nat) (d : TypeDesc)
    (hp : tmps.getD p undef = .pointer (some ⟨g, 0, none⟩)) (hg : w.heap[g]? = some (.cells cs t fr)) (hu : P.underlying ty = some d) (hd : (match d with | .struct _ | .array _ _ => true | _ => false) = true) (hi : (P.info? ty).map (·.size) = some cs.size) :
    (results fn tmps).run P w = .ok (.tuple #[.agg cs, tmps.getD u undef, tmps.getD v undef, tmps.getD x undef]) w := by
  have hp' : tmps[p]?.getD undef = .pointer (some ⟨g, 0, none⟩) := by simpa using hp
  simp [results, h, hp', asAddr, run_loadVar_row w g t ty cs fr d hg hu hd hi, Result.andThen]

/-- the world, but that these blocks hold nothing that could be read -/
def OffL : List Nat → World → World
  | [], w => w
  | k :: ks, w => Off k (OffL ks w)
theorem offL_size : ∀ (ks : List Nat) (w : World), (OffL ks w).heap.size = w.heap.size
  | [], _ => rfl
  | k :: ks, w => by rw [OffL, off_size, offL_size ks w]
theorem offL_out : ∀ {ks : List Nat} {w : World} {b : Nat}, b ∉ ks → (OffL ks w).heap[b]? = w.heap[b]?
  | [], _, _, _ => rfl
  | k :: ks, w, b, h => by
    rw [List.mem_cons, not_or] at h
    rw [OffL, show (Off k (OffL ks w)).heap[b]? = (OffL ks w).heap[b]? from World.putObj_heap_other h.1, offL_out h.2]
theorem offL_in : ∀ {ks : List Nat} {w : World} {b : Nat}, b ∈ ks → b < w.heap.size → (OffL ks w).heap[b]? = some (.deferred none)
  | k :: ks, w, b, h, hl => by
    by_cases e : b = k
    · subst e
      exact World.putObj_heap_same (by rw [offL_size]; exact hl)
    · rw [OffL, show (Off k (OffL ks w)).heap[b]? = (OffL ks w).heap[b]? from World.putObj_heap_other e]
      exact offL_in ((List.mem_cons.1 h).resolve_left e) hl
theorem off_same (k : Nat) (w : World) : (Off k w).os = w.os ∧ (Off k w).tape = w.tape ∧ (Off k w).output = w.output := ⟨rfl, rfl, rfl⟩
theorem offL_same : ∀ (ks : List Nat) (w : World), (OffL ks w).os = w.os ∧ (OffL ks w).tape = w.tape ∧ (OffL ks w).output = w.output
  | [], _ => ⟨rfl, rfl, rfl⟩
  | k :: ks, w => by
    obtain ⟨a, b, c⟩ := offL_same ks w
    exact ⟨a, b, c⟩
/-- all but these blocks is as it was -/
structure But (ks : List Nat) (w w' : World) : Prop where
  os : w'.os = w.os
  tape : w'.tape = w.tape
  output : w'.output = w.output
  size : w.heap.size ≤ w'.heap.size
  block : ∀ k, k < w.heap.size → k ∉ ks → w'.heap[k]? = w.heap[k]?
theorem But.refl (ks : List Nat) (w : World) : But ks w w := ⟨rfl, rfl, rfl, Nat.le_refl _, fun _ _ _ => rfl⟩
theorem But.trans {ks : List Nat} {a b c : World} (h : But ks a b) (k : But ks b c) : But ks a c :=
  ⟨k.os.trans h.os, k.tape.trans h.tape, k.output.trans h.output, Nat.le_trans h.size k.size, fun i hi hn => (k.block i (Nat.lt_of_lt_of_le hi h.size) hn).trans (h.block i hi hn)⟩
theorem But.grown {ks : List Nat} {w w' : World} {g : Nat} (h : w.grownBy w' (some g)) (hg : g ∈ ks) : But ks w w' :=
  ⟨h.os, h.tape, h.output, h.size, fun k hk hn => h.block k hk (fun e => hn (by rw [Option.some.inj e]; exact hg))⟩
theorem But.below {ks : List Nat} {w w' : World} (h : Below w.heap.size w w') : But ks w w' := ⟨h.os, h.tape, h.output, h.size, fun k hk _ => h.block k hk⟩
theorem But.set {ks : List Nat} {w : World} {p : Addr} (hp : p.block ∈ ks) (v : Value) : But ks w (w.setCell p v) :=
  ⟨rfl, rfl, rfl, by simp [World.setCell], fun k _ hn => Below.heap_setCell _ _ _ k (fun e => hn (by rw [e]; exact hp))⟩
theorem But.far {ks : List Nat} {B : Nat} {w w' : World} (h : But ks w w') (hB : B ≤ w.heap.size) (hk : ∀ k ∈ ks, B ≤ k) : Below B w w' :=
  ⟨h.os, h.tape, h.output, h.size, fun k hlt => h.block k (by omega) (fun e => by have := hk k e; omega)⟩
theorem offL_below {ks : List Nat} {w w' : World} (h : But ks w w') : Below (OffL ks w).heap.size (OffL ks w) (OffL ks w') := by
  obtain ⟨a1, a2, a3⟩ := offL_same ks w
  obtain ⟨b1, b2, b3⟩ := offL_same ks w'
  refine ⟨by rw [a1, b1, h.os], by rw [a2, b2, h.tape], by rw [a3, b3, h.output], by rw [offL_size, offL_size]; exact h.size, fun k hk => ?_⟩
  rw [offL_size] at hk
  by_cases e : k ∈ ks
  · rw [offL_in e hk, offL_in e (Nat.lt_of_lt_of_le hk h.size)]
  · rw [offL_out e, offL_out e, h.block k hk e]
theorem RunsIn.offL {w : World} {a : Option Addr} {n cap : Nat} {l : RunL} (h : RunsIn w a n cap l) : ∀ (ks : List Nat), (0 < n → ∀ b off, a = some ⟨b, off, none⟩ → b ∉ ks) → RunsIn (OffL ks w) a n cap l
  | [], _ => h
  | k :: ks, hn => (RunsIn.offL h ks fun hp b off e hb => hn hp b off e (List.mem_cons_of_mem _ hb)).off fun hp b off e e2 => hn hp b off e (by rw [e2]; exact List.mem_cons_self ..)
theorem QsIn.offL {w : World} {a : Option Addr} {n cap : Nat} {l : QL} (h : QsIn w a n cap l) : ∀ (ks : List Nat), (0 < n → ∀ b off, a = some ⟨b, off, none⟩ → b ∉ ks) → (∀ i, i < n → 0 < (qu l i).cn → ∀ b off, (qu l i).ca = some ⟨b, off, none⟩ → b ∉ ks) → QsIn (OffL ks w) a n cap l
  | [], _, _ => h
  | k :: ks, hn, hc => (QsIn.offL h ks (fun hp b off e hb => hn hp b off e (List.mem_cons_of_mem _ hb)) (fun i hi hp b off e hb => hc i hi hp b off e (List.mem_cons_of_mem _ hb))).off (fun hp b off e e2 => hn hp b off e (by rw [e2]; exact List.mem_cons_self ..)) (fun i hi hp b off e e2 => hc i hi hp b off e (by rw [e2]; exact List.mem_cons_self ..))
theorem RunsIn.onL {a : Option Addr} {n cap : Nat} {l : RunL} : ∀ {ks : List Nat} {w : World}, RunsIn (OffL ks w) a n cap l → RunsIn w a n cap l
  | [], _, h => h
  | _ :: _, _, h => RunsIn.onL (RunsIn.on h)
theorem QsIn.onL {a : Option Addr} {n cap : Nat} {l : QL} : ∀ {ks : List Nat} {w : World}, QsIn (OffL ks w) a n cap l → QsIn w a n cap l
  | [], _, h => h
  | _ :: _, _, h => QsIn.onL (QsIn.on h)
theorem Inner.onL {x : Bk} {ks : List Nat} {w : World} (h : Inner (OffL ks w) x) : Inner w x := ⟨RunsIn.onL h.1, RunsIn.onL h.2⟩
/-- the last one told is away still -/
theorem offL_last : ∀ (ks : List Nat) (g : Nat) (w : World), OffL (ks ++ [g]) w = OffL ks (Off g w)
  | [], _, _ => rfl
  | k :: ks, g, w => by rw [List.cons_append, OffL, offL_last ks g w, OffL]
/-- numbers stay where a slice is written over -/
theorem RunsIn.set_slice {w : World} {a : Option Addr} {n cap : Nat} {l : RunL} (h : RunsIn w a n cap l) {p : Addr} {x : Option Addr} {m k : Nat} (hp : w.cell? p = some (.slice x m k)) (u : Value) : RunsIn (w.setCell p u) a n cap l := by
  refine ⟨h.len, h.le, h.bound, h.capb, fun h0 => ?_⟩
  obtain ⟨b, off, ha, hc⟩ := h.cells h0
  have key : ∀ q v, w.cell? q = some (.int .i64 v) → (w.setCell p u).cell? q = some (.int .i64 v) := fun q v hq => by
    by_cases e : p = q
    · subst e; rw [hp] at hq; cases hq
    · rw [World.cell?_setCell_other (w := w) (v := u) (h := e)]; exact hq
  exact ⟨b, off, ha, fun i hi => ⟨key _ _ (hc i hi).1, key _ _ (hc i hi).2⟩⟩

/-- the queues, one of them with that Cap -/
def capL (l : QL) (q : Nat) (rs : RunL) : QL := l.set q ⟨(qu l q).name, (qu l q).parent, none, 0, 0, rs⟩
/-- I1's errors -/
def chgE (c n : Int) (l : QL) (b : BL) (q : Int) (rs : RunL) : Int := if planE c n l b = 0 then (if 0 ≤ q ∧ q < l.length then chkT (capL l q.toNat rs) else 6) else planE c n l b
theorem bareQ_cap {l l' : QL} (h : bareQ l' = bareQ l) (q : Nat) (a : Option Addr) (m k : Nat) (rs : RunL) : bareQ (l'.set q ⟨(qu l' q).name, (qu l' q).parent, a, m, k, rs⟩) = bareQ (capL l q rs) := by
  have hq : (qu l' q).bare = (qu l q).bare := by rw [← qu_bare, h, qu_bare]
  have h1 : (qu l' q).name = (qu l q).name := (show (qu l' q).bare.name = (qu l q).bare.name by rw [hq])
  have h2 : (qu l' q).parent = (qu l q).parent := (show (qu l' q).bare.parent = (qu l q).bare.parent by rw [hq])
  unfold capL bareQ at *
  rw [List.map_set, List.map_set, h, h1, h2]
  rfl
theorem capL_len (l : QL) (q : Nat) (rs : RunL) : (capL l q rs).length = l.length := List.length_set
/-- books that were right are right, whatever Caps there are -/
theorem clean_cap {l l' : QL} {b : BL} (h : Clean l b) (ht : chkT l' = 0) (hl : l'.length = l.length) : Clean l' b := by
  refine ⟨ht, h.few, fun i hi => ?_⟩
  have h1 := h.each i hi
  unfold chkB chkQR at h1 ⊢
  rw [if_pos h.tree] at h1
  rw [if_pos ht, hl]
  exact h1
theorem clean_same {l : QL} {b b' : BL} (h : Clean l b) (hb : bareB b' = bareB b) : Clean l b' := by
  have hl : b'.length = b.length := bare_len hb
  refine ⟨h.tree, by rw [hl]; exact h.few, fun i hi => ?_⟩
  rw [← chkB_bare, bare_at hb, chkB_bare]
  exact h.each i (by omega)
/-- Change has answered -/
def ChAns (w w' : World) (e : Ending) (c n : Int) (tn : Nat) (l : QL) (b : BL) (q : Nat) (rs : RunL) : Prop :=
  ∃ (g k1 : Nat) (l9 : QL) (aa : Option Addr) (k9 : Nat) (b9 b0 b1 aw : BL) (mv dr : List Int) (ma : Option Addr) (mk : Nat) (da : Option Addr) (dk : Nat),
    e = .returned (.tuple #[.agg #[.int .i64 c, .int .i64 n, .slice (some ⟨g, 0, none⟩) tn k1, .slice aa (List.length b9) k9], .slice ma (List.length mv) mk, .slice da (List.length dr) dk, .int .i64 0]) ∧ StIn w' (some ⟨g, 0, none⟩) tn k1 l9 aa b9.length k9 b9 ∧ bareQ l9 = bareQ (capL l q rs) ∧ bareB b0 = bareB b ∧ Lit c l9 b0 b1 aw ∧ (∀ u, c ≤ u → u < 48 → ∀ k, k < l9.length → overI l9 b1 u k = false) ∧ Stl c l9 b1 aw aw.length b9 mv dr ∧ OwnInts w' w.heap.size (.slice ma mv.length mk) mv ∧ OwnInts w' w.heap.size (.slice da dr.length dk) dr ∧ Below w.heap.size w w'
end Go.Proofs.YtecibbokbonmcaeGreat

/- cut.Change. -/
namespace Go.Proofs.YtecibbokbonmcaeGreat
open Go.RowKit

theorem ownsRow_base {w : World} {B B' n z : Nat} {e : TypeId} {v : Value} {xs : List Value} (h : w.ownsRow B e z v n xs) (hB : B' ≤ B) : w.ownsRow B' e z v n xs := by
  refine ⟨h.1, ?_⟩
  rcases h.2 with hz | ⟨g, cap, cur, rfl, h1, rest⟩
  · exact .inl hz
  · exact .inr ⟨g, cap, cur, rfl, by omega, rest⟩
def set4 (w : World) (B : Nat) (a b c d : Value) : World := (((w.setCell ⟨B, 0, none⟩ a).setCell ⟨B, 1, none⟩ b).setCell ⟨B, 2, none⟩ c).setCell ⟨B, 3, none⟩ d
theorem set4_box {w : World} {B : Nat} {x0 x1 x2 x3 : Value} (h : StBox w B x0 x1 x2 x3) (a b c d : Value) : StBox (set4 w B a b c d) B a b c d := (four_stores w B 25 _ _ _ _ a b c d h).1
theorem set4_size (w : World) (B : Nat) (a b c d : Value) : (set4 w B a b c d).heap.size = w.heap.size := by simp [set4, World.setCell]
theorem set4_grown {w : World} {B : Nat} {x0 x1 x2 x3 : Value} (h : StBox w B x0 x1 x2 x3) (a b c d : Value) : w.grownBy (set4 w B a b c d) (some B) :=
  ⟨rfl, rfl, rfl, by rw [set4_size]; exact Nat.le_refl _, fun k _ hne => (four_stores w B 25 _ _ _ _ a b c d h).2 k (fun e => hne (by rw [e]))⟩
/-- the state is the call's own, and one queue has the new Cap -/
structure YInv (w wy : World) (S B1 B : Nat) (c n : Int) (g k1 tn : Nat) (l3 : QL) (aa : Option Addr) (bn k3 : Nat) (b' : BL) : Prop where
  box : StBox wy B (.int .i64 c) (.int .i64 n) (.slice (some ⟨g, 0, none⟩) tn k1) (.slice aa bn k3)
  res : StBox wy (S + 1) (.int .i64 0) (.int .i64 0) (.slice none 0 0) (.slice none 0 0)
  qs : QsIn wy (some ⟨g, 0, none⟩) tn k1 l3
  qrow : B1 ≤ g ∧ g ≠ B ∧ ∀ gb, aa = some ⟨gb, 0, none⟩ → g ≠ gb
  caps : ∀ i, i < tn → 0 < (qu l3 i).cn → ∀ k off, (qu l3 i).ca = some ⟨k, off, none⟩ → B1 ≤ k ∧ k ≠ B ∧ ∀ gb, aa = some ⟨gb, 0, none⟩ → k ≠ gb
  row : wy.ownsRow B1 43 7 (.slice aa bn k3) bn (bkCells b')
  inner : ∀ x ∈ b', Inner wy x
  ps : ∀ x ∈ b', 0 < x.rq.pn → ∀ k off, x.rq.pa = some ⟨k, off, none⟩ → B1 ≤ k ∧ k ≠ B ∧ ∀ gb, aa = some ⟨gb, 0, none⟩ → k ≠ gb
  bs : ∀ x ∈ b', 0 < x.bn → ∀ k off, x.ba = some ⟨k, off, none⟩ → B1 ≤ k ∧ k ≠ B ∧ ∀ gb, aa = some ⟨gb, 0, none⟩ → k ≠ gb
  below : Below w.heap.size w wy
  sz : w.heap.size = S
  b1 : S + 2 ≤ B1 ∧ B1 ≤ B
  bsz : B < wy.heap.size
  bl : bn = b'.length
/-- what lies apart from the boxes and the books -/
theorem YInv.off {w wy : World} {S B1 B : Nat} {c n : Int} {g k1 tn : Nat} {l3 : QL} {gb bn k3 : Nat} {b' : BL} (h : YInv w wy S B1 B c n g k1 tn l3 (some ⟨gb, 0, none⟩) bn k3 b') :
    QsIn (OffL [S + 1, B, gb] wy) (some ⟨g, 0, none⟩) tn k1 l3 ∧ ∀ x ∈ b', Inner (OffL [S + 1, B, gb] wy) x := by
  have hb1 := h.b1
  have key : ∀ k, (B1 ≤ k ∧ k ≠ B ∧ ∀ gb', some (⟨gb, 0, none⟩ : Addr) = some ⟨gb', 0, none⟩ → k ≠ gb') → k ∉ [S + 1, B, gb] := by
    intro k hk hm
    have h1 := hk.2.2 gb rfl
    simp only [List.mem_cons, List.not_mem_nil, or_false] at hm
    rcases hm with e | e | e
    · omega
    · exact hk.2.1 e
    · exact h1 e
  refine ⟨h.qs.offL _ (fun _ k off e => ?_) (fun i hi hp k off e => key k (h.caps i hi hp k off e)), fun x hx => ⟨RunsIn.offL (h.inner x hx).1 _ fun hp k off e => key k (h.ps x hx hp k off e), RunsIn.offL (h.inner x hx).2 _ fun hp k off e => key k (h.bs x hx hp k off e)⟩⟩
  have e1 : g = k := by
    injection e with e
    injection e with e1 e2
  rw [← e1]
  exact key g h.qrow
/-- it ends: the state is answered -/
theorem YInv.done {w wy w6 : World} {S B1 B : Nat} {c n : Int} {g k1 tn : Nat} {l3 l : QL} {gb bn k3 : Nat} {b' b : BL} {q : Nat} {rs : RunL} (h : YInv w wy S B1 B c n g k1 tn l3 (some ⟨gb, 0, none⟩) bn k3 b')
    {b1 aw b9 : BL} {mv dr : List Int} {gx kx : Nat} {ma : Option Addr} {mk : Nat} {da : Option Addr} {dk : Nat} {x3 : Value} (hbut : But [S + 1, B, gb] wy w6) (hbox : StBox w6 B (.int .i64 c) (.int .i64 n) (.slice (some ⟨g, 0, none⟩) tn k1) x3) (hres : StBox w6 (S + 1) (.int .i64 0) (.int .i64 0) (.slice none 0 0) (.slice none 0 0))
    (hl : bareQ l3 = bareQ (capL l q rs)) (hb : bareB b' = bareB b) (hlit : Lit c l3 b' b1 aw) (hs1 : ∀ x ∈ b1, x ∈ b') (hs2 : ∀ x ∈ aw, x ∈ b') (hno : ∀ u, c ≤ u → u < 48 → ∀ k, k < l3.length → overI l3 b1 u k = false) (hstl : Stl c l3 b1 aw aw.length b9 mv dr) (hrow : w6.ownsRow B1 43 7 (.slice (some ⟨gx, 0, none⟩) b9.length kx) b9.length (bkCells b9)) (hin : ∀ x ∈ b9, InnerS b1 aw w6 x)
    (hm : OwnInts w6 w.heap.size (.slice ma mv.length mk) mv) (hd : OwnInts w6 w.heap.size (.slice da dr.length dk) dr) (hgb : w.heap.size ≤ gb) :
    ChAns w (set4 (set4 w6 B (.int .i64 c) (.int .i64 n) (.slice (some ⟨g, 0, none⟩) tn k1) (.slice (some ⟨gx, 0, none⟩) b9.length kx)) (S + 1) (.int .i64 c) (.int .i64 n) (.slice (some ⟨g, 0, none⟩) tn k1) (.slice (some ⟨gx, 0, none⟩) b9.length kx)) (.returned (.tuple #[.agg #[.int .i64 c, .int .i64 n, .slice (some ⟨g, 0, none⟩) tn k1, .slice (some ⟨gx, 0, none⟩) b9.length kx], .slice ma mv.length mk, .slice da dr.length dk, .int .i64 0])) c n tn l b q rs := by
  obtain ⟨hQ, hI⟩ := h.off
  have hb1 := h.b1
  have hsz := h.sz
  obtain ⟨w7, hw7⟩ : ∃ w7, w7 = set4 w6 B (.int .i64 c) (.int .i64 n) (.slice (some ⟨g, 0, none⟩) tn k1) (.slice (some ⟨gx, 0, none⟩) b9.length kx) := ⟨_, rfl⟩
  rw [← hw7]
  have g7 : w6.grownBy w7 (some B) := by rw [hw7]; exact set4_grown hbox _ _ _ _
  have hres7 : StBox w7 (S + 1) (.int .i64 0) (.int .i64 0) (.slice none 0 0) (.slice none 0 0) := (g7.block (S + 1) (Array.getElem?_eq_some_iff.1 hres).1 (fun e => by have := Option.some.inj e; omega)).trans hres
  obtain ⟨w8, hw8⟩ : ∃ w8, w8 = set4 w7 (S + 1) (.int .i64 c) (.int .i64 n) (.slice (some ⟨g, 0, none⟩) tn k1) (.slice (some ⟨gx, 0, none⟩) b9.length kx) := ⟨_, rfl⟩
  rw [← hw8]
  have g8 : w7.grownBy w8 (some (S + 1)) := by rw [hw8]; exact set4_grown hres7 _ _ _ _
  have hall : But [S + 1, B, gb] wy w8 := hbut.trans ((But.grown g7 (by simp)).trans (But.grown g8 (by simp)))
  have s7 : Stay w6 w7 := Stay.grown g7 (fun k e => by cases e; exact not_pb hbox (Or.inr (Or.inl rfl)))
  have s8 : Stay w7 w8 := Stay.grown g8 (fun k e => by cases e; exact not_pb hres7 (Or.inr (Or.inl rfl)))
  have r7 := hrow.kept g7 (Or.inr fun e => hbox.not_row hrow e.symm)
  have r8 := r7.kept g8 (Or.inr fun e => hres7.not_row r7 e.symm)
  have m7 := hm.keep g7 (Or.inr fun e => int_not_row hbox hm (by decide) e.symm)
  have d7 := hd.keep g7 (Or.inr fun e => int_not_row hbox hd (by decide) e.symm)
  have m8 := m7.keep g8 (Or.inr fun e => int_not_row hres7 m7 (by decide) e.symm)
  have d8 := d7.keep g8 (Or.inr fun e => int_not_row hres7 d7 (by decide) e.symm)
  refine ⟨g, k1, l3, some ⟨gx, 0, none⟩, kx, b9, b', b1, aw, mv, dr, ma, mk, da, dk, rfl, ⟨(hQ.later (offL_below hall)).onL, books_in rfl r8 fun x hx => ?_⟩, hl, hb, hlit, hno, hstl, m8, d8, h.below.trans (hall.far (by have := h.bsz; omega) fun k hk => ?_)⟩
  · rcases hin x hx with hx1 | ⟨⟨X, hX, e⟩, hp⟩
    · exact ((hI x (hs1 x hx1)).later (offL_below hall)).onL
    · refine ⟨?_, ((hp.stay s7).stay s8).1⟩
      rw [e]
      exact (((hI X (hs2 X hX)).later (offL_below hall)).onL).1
  · simp only [List.mem_cons, List.not_mem_nil, or_false] at hk
    rcases hk with e | e | e <;> omega
theorem YInv.later {w wy wz : World} {S B1 B : Nat} {c n : Int} {g k1 tn : Nat} {l3 : QL} {aa : Option Addr} {bn k3 : Nat} {b' : BL} (h : YInv w wy S B1 B c n g k1 tn l3 aa bn k3 b') (hb : Below wy.heap.size wy wz) : YInv w wz S B1 B c n g k1 tn l3 aa bn k3 b' :=
  ⟨h.box.later hb, h.res.later hb, h.qs.later hb, h.qrow, h.caps, ownsRow_below h.row hb, fun x hx => (h.inner x hx).later hb, h.ps, h.bs, below_from h.below hb, h.sz, h.b1, Nat.lt_of_lt_of_le h.bsz hb.size, h.bl⟩
theorem none_in (w : World) : BksIn w none 0 0 [] := ⟨rfl, Nat.le_refl _, by omega, fun h => by omega, fun i h => by omega, fun i h => by omega⟩
/-- it ends: there are no books -/
theorem YInv.done0 {w wy w6 : World} {S B1 B : Nat} {c n : Int} {g k1 tn : Nat} {l3 l : QL} {b : BL} {q : Nat} {rs : RunL} (h : YInv w wy S B1 B c n g k1 tn l3 none 0 0 [])
    (hbut : But [S + 1, B] wy w6) (hbox : StBox w6 B (.int .i64 c) (.int .i64 n) (.slice (some ⟨g, 0, none⟩) tn k1) (.slice none 0 0)) (hres : StBox w6 (S + 1) (.int .i64 0) (.int .i64 0) (.slice none 0 0) (.slice none 0 0))
    (hl : bareQ l3 = bareQ (capL l q rs)) (hb : bareB [] = bareB b) (hno : ∀ u, c ≤ u → u < 48 → ∀ k, k < l3.length → overI l3 [] u k = false) :
    ChAns w (set4 (set4 w6 B (.int .i64 c) (.int .i64 n) (.slice (some ⟨g, 0, none⟩) tn k1) (.slice none 0 0)) (S + 1) (.int .i64 c) (.int .i64 n) (.slice (some ⟨g, 0, none⟩) tn k1) (.slice none 0 0)) (.returned (.tuple #[.agg #[.int .i64 c, .int .i64 n, .slice (some ⟨g, 0, none⟩) tn k1, .slice none 0 0], .slice none 0 0, .slice none 0 0, .int .i64 0])) c n tn l b q rs := by
  have hb1 := h.b1
  have hsz := h.sz
  have key : ∀ k, (B1 ≤ k ∧ k ≠ B ∧ ∀ gb', (none : Option Addr) = some ⟨gb', 0, none⟩ → k ≠ gb') → k ∉ [S + 1, B] := by
    intro k hk hm
    simp only [List.mem_cons, List.not_mem_nil, or_false] at hm
    rcases hm with e | e
    · omega
    · exact hk.2.1 e
  have hQ : QsIn (OffL [S + 1, B] wy) (some ⟨g, 0, none⟩) tn k1 l3 := by
    refine h.qs.offL _ (fun _ k off e => ?_) (fun i hi hp k off e => key k (h.caps i hi hp k off e))
    have e1 : g = k := by
      injection e with e
      injection e with e1 e2
    rw [← e1]
    exact key g h.qrow
  obtain ⟨w7, hw7⟩ : ∃ w7, w7 = set4 w6 B (.int .i64 c) (.int .i64 n) (.slice (some ⟨g, 0, none⟩) tn k1) (.slice none 0 0) := ⟨_, rfl⟩
  rw [← hw7]
  have g7 : w6.grownBy w7 (some B) := by rw [hw7]; exact set4_grown hbox _ _ _ _
  have hres7 : StBox w7 (S + 1) (.int .i64 0) (.int .i64 0) (.slice none 0 0) (.slice none 0 0) := (g7.block (S + 1) (Array.getElem?_eq_some_iff.1 hres).1 (fun e => by have := Option.some.inj e; omega)).trans hres
  obtain ⟨w8, hw8⟩ : ∃ w8, w8 = set4 w7 (S + 1) (.int .i64 c) (.int .i64 n) (.slice (some ⟨g, 0, none⟩) tn k1) (.slice none 0 0) := ⟨_, rfl⟩
  rw [← hw8]
  have g8 : w7.grownBy w8 (some (S + 1)) := by rw [hw8]; exact set4_grown hres7 _ _ _ _
  have hall : But [S + 1, B] wy w8 := hbut.trans ((But.grown g7 (by simp)).trans (But.grown g8 (by simp)))
  refine ⟨g, k1, l3, none, 0, [], [], [], [], [], [], none, 0, none, 0, rfl, ⟨(hQ.later (offL_below hall)).onL, none_in _⟩, hl, hb, Lit.start, hno, Stl.start, World.ownsRow_nil _ _ _ _, World.ownsRow_nil _ _ _ _, h.below.trans (hall.far (by have := h.bsz; omega) fun k hk => ?_)⟩
  simp only [List.mem_cons, List.not_mem_nil, or_false] at hk
  rcases hk with e | e <;> omega
end Go.Proofs.YtecibbokbonmcaeGreat

/- cut.Change: the walk. -/
namespace Go.Proofs.YtecibbokbonmcaeGreat
open Go.RowKit

set_option maxRecDepth 100000 in
set_option maxHeartbeats 2000000 in
theorem Change_wrong (w : World) (c n : Int) (ta : Option Addr) (tn tc : Nat) (l : QL) (ba : Option Addr) (bn bc : Nat) (b : BL) (h : StIn w ta tn tc l ba bn bc b) (q : Int) (ra : Option Addr) (rn rc : Nat) (hE : planE c n l b ≠ 0) :
    Calls Tryz.prog 8 #[.agg #[.int .i64 c, .int .i64 n, .slice ta tn tc, .slice ba bn bc], .int .i64 q, .slice ra rn rc] w fun e w' => e = .returned (.tuple #[.agg #[.int .i64 0, .int .i64 0, .slice none 0 0, .slice none 0 0], .slice none 0 0, .slice none 0 0, .int .i64 (planE c n l b)]) ∧ Below w.heap.size w w' := by
  obtain ⟨S, hS⟩ : ∃ S, w.heap.size = S := ⟨_, rfl⟩
  obtain ⟨W1, hW1⟩ : ∃ W1, W1 = (w.alloc (.cells #[.int .i64 c, .int .i64 n, .slice ta tn tc, .slice ba bn bc] 25)).alloc (.cells #[.int .i64 0, .int .i64 0, .slice none 0 0, .slice none 0 0] 25) := ⟨_, rfl⟩
  obtain ⟨x1, x3, hb0, hsz⟩ := st_res w _ _ _ _ hW1
  rw [hS] at x1 x3 hsz
  have K1 := CheckS_any W1 c n ta tn tc l ba bn bc b (h.later hb0)
  have X3 := hid x3
  have HB0 := hid hb0
  have HW1 := hid hW1
  have HS := hid hS
  obtain ⟨c0, c1, c2, c3⟩ := x1.cells
  obtain ⟨E, hEe⟩ : ∃ E, planE c n l b = E := ⟨_, rfl⟩
  rw [hEe] at K1 hE ⊢
  have hne : (E != 0) = true := by simp [hE]
  have HK1 := hid K1
  clear hW1 x1 x3 hb0 h hsz K1 hEe hE
  go_enter Tryz.func8, Tryz.ntmps8
  go_wp2_with fail
  rw [← HW1.out]
  refine HK1.out.mono ?_
  rintro e w1 ⟨rfl, hb⟩
  have HX := hid (X3.out.later hb)
  have HB1 := hid (below_from HB0.out hb)
  clear hb c0 c1 c2 c3
  obtain ⟨y0, y1, y2, y3⟩ := HX.out.cells
  have yf : ∀ k, w1.frozen? ⟨S + 1, k, none⟩ = false := fun k => frozen_of_row w1 (S + 1) k _ _ HX.out
  go_wp2_with fail
  have hst := four_stores w1 (S + 1) 25 _ _ _ _ (.int .i64 0) (.int .i64 0) (.slice none 0 0) (.slice none 0 0) HX.out
  have h4 : w.heap.size ≤ S + 1 := by have := HS.out; omega
  refine bodyPost_ret (v := .tuple #[.agg #[.int .i64 0, .int .i64 0, .slice none 0 0, .slice none 0 0], .slice none 0 0, .slice none 0 0, .int .i64 E]) (results_row_tmp3 Tryz.results8 _ _ (S + 1) 25 #[.int .i64 0, .int .i64 0, .slice none 0 0, .slice none 0 0] (0, 0) _ rfl hst.1 Tryz.underlying25 rfl (by kernel_rfl)) rfl ⟨rfl, ?_⟩
  exact ((((HB1.out.setCell (p := ⟨S + 1, 0, none⟩) h4 _).setCell (p := ⟨S + 1, 1, none⟩) h4 _).setCell (p := ⟨S + 1, 2, none⟩) h4 _).setCell (p := ⟨S + 1, 3, none⟩) h4 _)
set_option maxRecDepth 100000 in
set_option maxHeartbeats 2000000 in
theorem Change_miss (w : World) (c n : Int) (ta : Option Addr) (tn tc : Nat) (l : QL) (ba : Option Addr) (bn bc : Nat) (b : BL) (h : StIn w ta tn tc l ba bn bc b) (q : Int) (ra : Option Addr) (rn rc : Nat) (hp : planE c n l b = 0) (hq : ¬ (0 ≤ q ∧ q < tn)) :
    Calls Tryz.prog 8 #[.agg #[.int .i64 c, .int .i64 n, .slice ta tn tc, .slice ba bn bc], .int .i64 q, .slice ra rn rc] w fun e w' => e = .returned (.tuple #[.agg #[.int .i64 0, .int .i64 0, .slice none 0 0, .slice none 0 0], .slice none 0 0, .slice none 0 0, .int .i64 6]) ∧ Below w.heap.size w w' := by
  obtain ⟨S, hS⟩ : ∃ S, w.heap.size = S := ⟨_, rfl⟩
  obtain ⟨W1, hW1⟩ : ∃ W1, W1 = (w.alloc (.cells #[.int .i64 c, .int .i64 n, .slice ta tn tc, .slice ba bn bc] 25)).alloc (.cells #[.int .i64 0, .int .i64 0, .slice none 0 0, .slice none 0 0] 25) := ⟨_, rfl⟩
  obtain ⟨x1, x3, hb0, hsz⟩ := st_res w _ _ _ _ hW1
  rw [hS] at x1 x3 hsz
  have K1 := CheckS_any W1 c n ta tn tc l ba bn bc b (h.later hb0)
  rw [hp] at K1
  have X1 := hid x1
  have X3 := hid x3
  have HB0 := hid hb0
  have HW1 := hid hW1
  have HS := hid hS
  obtain ⟨c0, c1, c2, c3⟩ := x1.cells
  have HK1 := hid K1
  clear hW1 x1 x3 hb0 h hsz K1 hp
  go_enter Tryz.func8, Tryz.ntmps8
  go_wp2_with fail
  rw [← HW1.out]
  refine HK1.out.mono ?_
  rintro e w1 ⟨rfl, hb⟩
  have HX := hid (X3.out.later hb)
  have HB1 := hid (below_from HB0.out hb)
  have HX1 := hid (X1.out.later hb)
  clear hb c0 c1 c2 c3
  obtain ⟨c0, c1, c2, c3⟩ := HX1.out.cells
  obtain ⟨y0, y1, y2, y3⟩ := HX.out.cells
  have yf : ∀ k, w1.frozen? ⟨S + 1, k, none⟩ = false := fun k => frozen_of_row w1 (S + 1) k _ _ HX.out
  have hst := four_stores w1 (S + 1) 25 _ _ _ _ (.int .i64 0) (.int .i64 0) (.slice none 0 0) (.slice none 0 0) HX.out
  have h4 : w.heap.size ≤ S + 1 := by have := HS.out; omega
  have HST := hid hst
  clear hst
  by_cases hq0 : q < 0
  · clear hq
    go_wp2_with fail
    refine bodyPost_ret (v := .tuple #[.agg #[.int .i64 0, .int .i64 0, .slice none 0 0, .slice none 0 0], .slice none 0 0, .slice none 0 0, .int .i64 6]) (results_row_tmp3 Tryz.results8 _ _ (S + 1) 25 #[.int .i64 0, .int .i64 0, .slice none 0 0, .slice none 0 0] (0, 0) _ rfl HST.out.1 Tryz.underlying25 rfl (by kernel_rfl)) rfl ⟨rfl, ?_⟩
    exact ((((HB1.out.setCell (p := ⟨S + 1, 0, none⟩) h4 _).setCell (p := ⟨S + 1, 1, none⟩) h4 _).setCell (p := ⟨S + 1, 2, none⟩) h4 _).setCell (p := ⟨S + 1, 3, none⟩) h4 _)
  · have hq1 : (tn : Int) ≤ q := by omega
    have hq2 : ¬ q < 0 := hq0
    have hq3 : 0 ≤ q := by omega
    clear hq
    go_wp2_with fail
    refine bodyPost_ret (v := .tuple #[.agg #[.int .i64 0, .int .i64 0, .slice none 0 0, .slice none 0 0], .slice none 0 0, .slice none 0 0, .int .i64 6]) (results_row_tmp3 Tryz.results8 _ _ (S + 1) 25 #[.int .i64 0, .int .i64 0, .slice none 0 0, .slice none 0 0] (0, 0) _ rfl HST.out.1 Tryz.underlying25 rfl (by kernel_rfl)) rfl ⟨rfl, ?_⟩
    exact ((((HB1.out.setCell (p := ⟨S + 1, 0, none⟩) h4 _).setCell (p := ⟨S + 1, 1, none⟩) h4 _).setCell (p := ⟨S + 1, 2, none⟩) h4 _).setCell (p := ⟨S + 1, 3, none⟩) h4 _)
end Go.Proofs.YtecibbokbonmcaeGreat

/- cut.Change: the walk where the state and the queue's number are right. -/
namespace Go.Proofs.YtecibbokbonmcaeGreat
open Go.RowKit

set_option maxRecDepth 100000 in
set_option maxHeartbeats 8000000 in
theorem Change_any (w : World) (c n : Int) (ta : Option Addr) (tn tc : Nat) (l : QL) (ba : Option Addr) (bn bc : Nat) (b : BL) (h : StIn w ta tn tc l ba bn bc b) (q : Nat) (hq : q < tn) (ra : Option Addr) (rn rc : Nat) (rs : RunL) (hr : RunsIn w ra rn rc rs) (hrn : rn ≤ 1048576) (hp : planE c n l b = 0) :
    Calls Tryz.prog 8 #[.agg #[.int .i64 c, .int .i64 n, .slice ta tn tc, .slice ba bn bc], .int .i64 q, .slice ra rn rc] w fun e w' => (chkT (capL l q rs) ≠ 0 ∧ e = .returned (.tuple #[.agg #[.int .i64 0, .int .i64 0, .slice none 0 0, .slice none 0 0], .slice none 0 0, .slice none 0 0, .int .i64 (chkT (capL l q rs))]) ∧ Below w.heap.size w w') ∨ (chkT (capL l q rs) = 0 ∧ ChAns w w' e c n tn l b q rs) := by
  obtain ⟨E, hE⟩ : ∃ E, chkT (capL l q rs) = E := ⟨_, rfl⟩
  rw [hE]
  have HE := hid hE
  clear hE
  have hSo := sound_of hp
  have hmod := modest_of h hSo.clean
  have HBL0 := hid h.2.len
  have HTL0 := hid h.1.len
  have HSO := hid hSo
  have htn : tn ≤ 1000 := hmod.t1
  obtain ⟨S, hS⟩ : ∃ S, w.heap.size = S := ⟨_, rfl⟩
  obtain ⟨W1, hW1⟩ : ∃ W1, W1 = (w.alloc (.cells #[.int .i64 c, .int .i64 n, .slice ta tn tc, .slice ba bn bc] 25)).alloc (.cells #[.int .i64 0, .int .i64 0, .slice none 0 0, .slice none 0 0] 25) := ⟨_, rfl⟩
  obtain ⟨x1, x3, hb0, hsz⟩ := st_res w _ _ _ _ hW1
  rw [hS] at x1 x3 hsz
  have K1 := CheckS_any W1 c n ta tn tc l ba bn bc b (h.later hb0)
  rw [hp] at K1
  have K3 := hid fun X (hX : Below w.heap.size w X) => State_any X c n ta tn tc l ba bn bc b (h.later hX) hmod
  have KC := hid fun X (hX : Below w.heap.size w X) => CloneRuns_upto X ra rn rc rs (hr.later hX) hrn
  have X1 := hid x1
  have X3 := hid x3
  have HB0 := hid hb0
  have HW1 := hid hW1
  have HS := hid hS
  have HSZ := hid hsz
  obtain ⟨c0, c1, c2, c3⟩ := x1.cells
  have HK1 := hid K1
  have hlt' : (q : Int) < tn := by omega
  have hge : (0 : Int) ≤ q := by omega
  clear hW1 x1 x3 hb0 h hsz K1 hp hSo hmod hr
  go_enter Tryz.func8, Tryz.ntmps8
  go_wp2_with fail
  rw [← HW1.out]
  refine HK1.out.mono ?_
  rintro e w1 ⟨rfl, hb⟩
  have HX1 := hid (X1.out.later hb)
  have HX3 := hid (X3.out.later hb)
  have HB1 := hid (below_from HB0.out hb)
  have HL1 : Hid (S + 2 ≤ w1.heap.size) := by have := hb.size; have := HSZ.out; show S + 2 ≤ w1.heap.size; omega
  clear hb c0 c1 c2 c3
  obtain ⟨c0, c1, c2, c3⟩ := HX1.out.cells
  go_wp2_with fail
  refine (K3.out w1 HB1.out).mono ?_
  rintro e w2 ⟨g, k1, l', aa, k3, b', rfl, hO, hl', hb', hbq, hbb, hb⟩
  obtain ⟨W3, hW3⟩ : ∃ W3, W3 = w2.alloc (.cells #[.int .i64 c, .int .i64 n, .slice (some ⟨g, 0, none⟩) tn k1, .slice aa bn k3] 25) := ⟨_, rfl⟩
  have hbW : Below w2.heap.size w2 W3 := by rw [hW3]; exact (Below.refl _ _).alloc (Nat.le_refl _) _
  have hs3 : W3.heap.size = w2.heap.size + 1 := by rw [hW3]; simp
  have hxb : StBox W3 w2.heap.size (.int .i64 c) (.int .i64 n) (.slice (some ⟨g, 0, none⟩) tn k1) (.slice aa bn k3) := by rw [hW3]; exact StBox.new w2 _ _ _ _
  obtain ⟨B1, hB1⟩ : ∃ B1, w1.heap.size = B1 := ⟨_, rfl⟩
  obtain ⟨B, hB⟩ : ∃ B, w2.heap.size = B := ⟨_, rfl⟩
  have hg : B1 ≤ g ∧ g < B := by have := hO.qs.row.lt g rfl; omega
  have hB1B : B1 ≤ B := by have := hb.size; omega
  have hSB : S + 2 ≤ B1 := by have := HL1.out; omega
  have HO := hid hO
  have HO3 := hid (hO.qs.later hbW)
  have HB2 := hid (below_from HB1.out hb)
  have HZ3 := hid ((HX3.out.later hb).later hbW)
  have HB3 := hid (below_from HB2.out hbW)
  have HBW := hid hbW
  rw [hB] at hxb hs3
  have HXB := hid hxb
  have HLQ := hid hl'
  have HBB := hid hb'
  have HBQ := hid hbq
  have HBE := hid hbb
  have HW3 := hid hW3
  have HS3 := hid hs3
  have HBn := hid hB
  have HBn1 := hid hB1
  have hlq : q < l'.length := by omega
  have C2 := hid hxb.cells.2.2.1
  clear hb hbW hs3 hxb hO hbq hbb hW3 hB hB1 c0 c1 c2 c3 hl' hb'
  obtain ⟨m0, m1, m2, m3⟩ := HX1.out.cells
  go_wp2_with fail
  rw [HBn.out]
  rw [← HW3.out]
  refine wp_region_store ((Tryz.f8.body.bind fun c => regOps c 7).getD #[]) (by kernel_rfl) [isV (.pointer (some ⟨B, 2, none⟩)), isV (.slice (some ⟨g, 0, none⟩) tn k1), isV (.int .i64 q), isV (.slice ra rn rc), ⟨fun v Z => ∃ a8 c8, v = .slice a8 rn c8 ∧ RunsIn Z a8 rn c8 rs ∧ ∀ b off, a8 = some ⟨b, off, none⟩ → W3.heap.size ≤ b, fun _ _ _ ⟨a8, c8, h1, h2, h3⟩ hb => ⟨a8, c8, h1, h2.later hb, h3⟩⟩, isV (.pointer (some ⟨g, q * 3, none⟩)), isV (.pointer (some ⟨g, q * 3 + 2, none⟩)), isV undef] 7 (by kernel_rfl) (by kernel_rfl) (by kernel_rfl) ?hstep
  case hstep =>
    refine AllOps.cons 1 rfl ?_ ?_
    · intro T w' hb hs hl hd
      rw [if_neg (by decide)]
      have h0 : T.getD 11 undef = .pointer (some ⟨B, 0, none⟩) := hl 11 (by kernel_rfl)
      exact Or.inl ⟨.pointer (some ⟨B, 2, none⟩), w', by go_simp, rfl, Below.refl _ _⟩
    refine AllOps.cons 2 rfl ?_ ?_
    · intro T w' hb hs hl hd
      rw [if_neg (by decide)]
      have h0 : T.getD 34 undef = .pointer (some ⟨B, 2, none⟩) := hd 0 34 (by kernel_rfl)
      have cc := cell_later hb C2.out
      exact Or.inl ⟨.slice (some ⟨g, 0, none⟩) tn k1, w', by go_simp, rfl, Below.refl _ _⟩
    refine AllOps.cons 3 rfl ?_ ?_
    · intro T w' hb hs hl hd
      rw [if_neg (by decide)]
      have h0 : T.getD 1 undef = .int .i64 q := hl 1 (by kernel_rfl)
      exact Or.inl ⟨.int .i64 q, w', by go_simp, rfl, Below.refl _ _⟩
    refine AllOps.cons 4 rfl ?_ ?_
    · intro T w' hb hs hl hd
      rw [if_neg (by decide)]
      have h0 : T.getD 2 undef = .slice ra rn rc := hl 2 (by kernel_rfl)
      exact Or.inl ⟨.slice ra rn rc, w', by go_simp, rfl, Below.refl _ _⟩
    refine AllOps.cons 5 rfl ?_ ?_
    · intro T w' hb hs hl hd
      rw [if_neg (by decide)]
      have h0 : T.getD 37 undef = .slice ra rn rc := hd 3 37 (by kernel_rfl)
      refine Or.inr ⟨35, #[.slice ra rn rc], by go_simp, ?_⟩
      refine (KC.out w' (below_from HB3.out hb)).mono ?_
      rintro e w'' ⟨a8, c8, rfl, hr, hbb, hnw⟩
      exact ⟨_, rfl, ⟨a8, c8, rfl, hr.1, fun b off e => by have := hnw b off e; have := hb.size; omega⟩, hbb⟩
    refine AllOps.cons 6 rfl ?_ ?_
    · intro T w' hb hs hl hd
      rw [if_neg (by decide)]
      have h0 : T.getD 35 undef = .slice (some ⟨g, 0, none⟩) tn k1 := hd 1 35 (by kernel_rfl)
      have h1 : T.getD 36 undef = .int .i64 q := hd 2 36 (by kernel_rfl)
      exact Or.inl ⟨.pointer (some ⟨g, q * 3, none⟩), w', by go_simp, rfl, Below.refl _ _⟩
    refine AllOps.cons 7 rfl ?_ ?_
    · intro T w' hb hs hl hd
      rw [if_neg (by decide)]
      have h0 : T.getD 39 undef = .pointer (some ⟨g, q * 3, none⟩) := hd 5 39 (by kernel_rfl)
      exact Or.inl ⟨.pointer (some ⟨g, q * 3 + 2, none⟩), w', by go_simp, rfl, Below.refl _ _⟩
    refine AllOps.cons 8 rfl ?_ ?_
    · intro T w' hb hs hl hd
      rw [if_pos rfl]
      replace hs := hs.resolve_right (fun h => h rfl)
      have h1 : T.getD 40 undef = .pointer (some ⟨g, q * 3 + 2, none⟩) := hd 6 40 (by kernel_rfl)
      obtain ⟨a8, c8, h0, hr, hnw⟩ := hd 4 38 (by kernel_rfl)
      have hO := HO3.out.later hb
      have hlen := HLQ.out
      have hrow := hO.row
      rw [← hlen] at hrow
      have x6 : w'.cell? ⟨g, q * 3 + 2, none⟩ = some (.slice (qu l' q).ca (qu l' q).cn (qu l' q).cc) := by rw [hrow.cellAt (q * 3 + 2) (by omega), quCells_at l' q 2 (by omega) (by omega)]; rfl
      have xf : ∀ k, w'.frozen? ⟨g, k, none⟩ = false := fun k => hrow.frozenAt k
      have hs3 := HS3.out
      have hst := hO.store HLQ.out hlq hr (fun _ b off e => by have := hnw b off e; omega)
      have hoth : ∀ k, k ≠ g → k < W3.heap.size → (w'.setCell ⟨g, q * 3 + 2, none⟩ (.slice a8 rn c8)).heap[k]? = W3.heap[k]? := fun k hk hk2 => by
        rw [heap_setCell_other _ ⟨g, q * 3 + 2, none⟩ k _ hk]
        exact hb.block k hk2
      have hbe : Below w.heap.size w (w'.setCell ⟨g, q * 3 + 2, none⟩ (.slice a8 rn c8)) := (below_from HB3.out hb).setCell (p := ⟨g, q * 3 + 2, none⟩) (by have := HS.out; have := hg.1; simp only; omega) _
      have hszy : W3.heap.size ≤ (w'.setCell ⟨g, q * 3 + 2, none⟩ (.slice a8 rn c8)).heap.size := by have := hb.size; simp only [World.setCell, Array.size_modify]; omega
      have hbks := (HO.out.bks.later HBW.out).later hb
      have HY : Hid (YInv w (w'.setCell ⟨g, q * 3 + 2, none⟩ (.slice a8 rn c8)) S B1 B c n g k1 tn (l'.set q ⟨(qu l' q).name, (qu l' q).parent, a8, rn, c8, rs⟩) aa bn k3 b') := by
        have hO' := HO.out
        have hlow : ∀ gb, aa = some ⟨gb, 0, none⟩ → gb < B ∧ g ≠ gb := fun gb e => by
          subst e
          have h1 := hO'.bks.row.lt gb rfl
          have h2 := own_ne.1 (hO'.apart gb rfl).1
          exact ⟨by have := HBn.out; omega, h2⟩
        have inn : ∀ x ∈ b', (0 < x.rq.pn → ∀ k off, x.rq.pa = some ⟨k, off, none⟩ → B1 ≤ k ∧ k ≠ B ∧ ∀ gb, aa = some ⟨gb, 0, none⟩ → k ≠ gb) ∧ (0 < x.bn → ∀ k off, x.ba = some ⟨k, off, none⟩ → B1 ≤ k ∧ k ≠ B ∧ ∀ gb, aa = some ⟨gb, 0, none⟩ → k ≠ gb) := by
          intro x hx
          obtain ⟨i, hi, rfl⟩ := mem_bk hx
          refine ⟨fun hp k off e => ?_, fun hp k off e => ?_⟩
          · have h1 := hO'.newP i hi hp k off e
            have h2 := RunsIn.lt (hO'.bks.rqs i hi) hp e
            have h3 := hO'.bks.farP i hi hp k off e
            exact ⟨by have := HBn1.out; omega, by have := HBn.out; omega, fun gb e2 e3 => h3 (by rw [e2, e3]; rfl)⟩
          · have h1 := hO'.newB i hi hp k off e
            have h2 := (hO'.bks.bites i hi).lt hp e
            have h3 := hO'.bks.farB i hi hp k off e
            exact ⟨by have := HBn1.out; omega, by have := HBn.out; omega, fun gb e2 e3 => h3 (by rw [e2, e3]; rfl)⟩
        refine hid ⟨(hoth B (by omega) (by omega)).trans HXB.out, (hoth (S + 1) (by omega) (by omega)).trans HZ3.out, own_qs_is hst, ⟨hg.1, by omega, fun gb e => (hlow gb e).2⟩, fun i hi hp k off e => ?_, ?_, fun x hx => ?_, fun x hx => (inn x hx).1, fun x hx => (inn x hx).2, hbe, HS.out, ⟨hSB, hB1B⟩, by omega, HBB.out⟩
        · rw [qu_set _ hlq] at hp e
          by_cases ei : i = q
          · rw [if_pos ei] at hp e
            have h1 := hnw k off e
            exact ⟨by omega, by omega, fun gb e2 e3 => by have := (hlow gb e2).1; omega⟩
          · rw [if_neg ei] at hp e
            have hi' : i < l'.length := by omega
            have h1 := hO'.newC i hi' hp k off e
            have h2 := (hO'.qs.caps i hi').lt hp e
            refine ⟨by have := HBn1.out; omega, by have := HBn.out; omega, fun gb e2 => ?_⟩
            subst e2
            exact (hO'.apart gb rfl).2 i hi' hp k off e
        · have h1 := hbks.row
          rw [← HBB.out] at h1
          have h2 : w'.grownBy (w'.setCell ⟨g, q * 3 + 2, none⟩ (.slice a8 rn c8)) (some g) := ⟨rfl, rfl, rfl, by simp [World.setCell], fun k _ hne => Below.heap_setCell _ _ _ k (fun e => hne (by rw [e]))⟩
          have h3 := h1.kept h2 (by
            cases e : (Value.slice aa bn k3).ownBlock with
            | none => exact Or.inl rfl
            | some gb =>
              refine Or.inr fun e2 => ?_
              have := (hO'.apart gb e).1
              exact this (by rw [e2]; rfl))
          have := HBn1.out
          rw [← this]
          exact h3
        · obtain ⟨i, hi, rfl⟩ := mem_bk hx
          exact ⟨RunsIn.set_slice (hbks.rqs i hi) x6 _, (hbks.bites i hi).set_slice x6 _⟩
      clear hrow hO
      refine ⟨w'.setCell ⟨g, q * 3 + 2, none⟩ (.slice a8 rn c8), by go_simp, ?_⟩
      show _
      rw [lit_then [true, true, true, true, true, true, true, true, true, true, true, true, true, true, true, true, true, true, true, true, true, true, true, true, true, true, true, true, true, true, true, true, true, true, false, false, false, false, false, false, false, true, true, true, true, true, true, true, true, true, true, true, true, true, true, true, true, true, true, true, true, true, true] (by kernel_rfl) hs hl]
      obtain ⟨us, hus⟩ : ∃ us : Nat → Value, (fun d => T.getD d undef) = us := ⟨_, rfl⟩
      rw [hus]
      clear hus hl hs hd
      simp only [fillL]
      have HL3 := hid (bareQ_cap HBQ.out q a8 rn c8 rs)
      obtain ⟨wy, hwy⟩ : ∃ wy, w'.setCell ⟨g, q * 3 + 2, none⟩ (.slice a8 rn c8) = wy := ⟨_, rfl⟩
      obtain ⟨l3, hl3⟩ : ∃ l3, l'.set q ⟨(qu l' q).name, (qu l' q).parent, a8, rn, c8, rs⟩ = l3 := ⟨_, rfl⟩
      rw [hwy, hl3] at HY
      rw [hl3] at HL3
      rw [hwy]
      clear hst hoth hbe hszy hwy hl3 x6 xf hr hb h0 h1 hlen hnw hbks HO HO3 HXB HZ3 HBW HB3 HW3 HS3 C2 KC K3 HX1 HX3 X1 X3 HW1 HK1 HB0 m0 m1 m2 m3 hs3
      have KT := CheckT_any wy _ tn k1 l3 HY.out.qs
      have hch : chkT l3 = E := by rw [← chkT_bare, HL3.out, chkT_bare]; exact HE.out
      rw [hch] at KT
      have HCH := hid hch
      have HKT := hid KT
      obtain ⟨s0, s1, s2, s3⟩ := HY.out.box.cells
      clear KT hch
      go_wp2_with fail
      refine HKT.out.mono ?_
      rintro e w4 ⟨rfl, hb⟩
      have HZ := hid (HY.out.later hb)
      clear HY hb s0 s1 s2 s3
      obtain ⟨s0, s1, s2, s3⟩ := HZ.out.box.cells
      by_cases ht : E = 0
      · have HC3 : Hid (Clean l3 b') := hid (clean_cap (clean_same HSO.out.clean HBE.out) (HCH.out.trans ht) (by
          have h1 := congrArg List.length HL3.out
          rw [len_bareQ, len_bareQ, capL_len] at h1
          exact h1))
        have hc0 := HSO.out.c0
        have hc48 := HSO.out.c48
        have hBf : ∀ k, w4.frozen? ⟨B, k, none⟩ = false := fun k => frozen_of_row w4 B k _ _ HZ.out.box
        have hEf : (E != 0) = false := by simp [ht]
        have haa : (aa = none ∧ bn = 0 ∧ k3 = 0) ∨ ∃ gb, aa = some ⟨gb, 0, none⟩ := by
          rcases HZ.out.row.2 with ⟨e, _⟩ | ⟨gb, kk, cur, e, _⟩
          · simp only [Value.slice.injEq] at e
            exact Or.inl e
          · simp only [Value.slice.injEq] at e
            exact Or.inr ⟨gb, e.1⟩
        rcases haa with ⟨rfl, rfl, rfl⟩ | ⟨gb, rfl⟩
        · have hnil : b' = [] := List.length_eq_zero_iff.1 HZ.out.bl.symm
          subst hnil
          have HKL := hid (lighten_nil w4 c n (some ⟨g, 0, none⟩) tn k1 l3 none 0 HC3.out hc0 hc48 ⟨HZ.out.qs, none_in _⟩)
          go_wp2_with fail
          refine HKL.out.mono ?_
          rintro e w5 ⟨rfl, hb5⟩
          have hb1 := HZ.out.b1
          have hbox5 := HZ.out.box.later hb5
          have hres5 := HZ.out.res.later hb5
          obtain ⟨W6, hW6⟩ : ∃ W6, W6 = (((w5.setCell ⟨B, 0, none⟩ (.int .i64 c)).setCell ⟨B, 1, none⟩ (.int .i64 n)).setCell ⟨B, 2, none⟩ (.slice (some ⟨g, 0, none⟩) tn k1)).setCell ⟨B, 3, none⟩ (.slice none 0 0) := ⟨_, rfl⟩
          have hbox6 : StBox W6 B (.int .i64 c) (.int .i64 n) (.slice (some ⟨g, 0, none⟩) tn k1) (.slice none 0 0) := by rw [hW6]; exact set4_box hbox5 _ _ _ _
          have hg6 : w5.grownBy W6 (some B) := by rw [hW6]; exact set4_grown hbox5 _ _ _ _
          have hres6 : StBox W6 (S + 1) (.int .i64 0) (.int .i64 0) (.slice none 0 0) (.slice none 0 0) := (hg6.block (S + 1) (Array.getElem?_eq_some_iff.1 hres5).1 (fun e => by have := Option.some.inj e; omega)).trans hres5
          have hbut6 : But [S + 1, B] w4 W6 := (But.below hb5).trans (But.grown hg6 (by simp))
          have HKS := hid (settle_nil W6 c n (some ⟨g, 0, none⟩) tn k1 none 0 0)
          have HBX6 := hid hbox6
          have HRS6 := hid hres6
          have HBT6 := hid hbut6
          have HW6 := hid hW6
          obtain ⟨d0, d1, d2, d3⟩ := hbox5.cells
          have df5 : ∀ k, w5.frozen? ⟨B, k, none⟩ = false := fun k => frozen_of_row w5 B k _ _ hbox5
          obtain ⟨p0, p1, p2, p3⟩ := hbox6.cells
          rw [hW6] at p0 p1 p2 p3
          have hbS : B ≠ S + 1 := by omega
          clear hb5 hbox5 hres5 hbox6 hres6 hg6 hbut6 hW6 s0 s1 s2 s3 hBf
          go_wp2_with fail
          rw [← HW6.out]
          refine HKS.out.mono ?_
          rintro e w7 ⟨rfl, hb7⟩
          have hbox7 := HBX6.out.later hb7
          have hres7 := HRS6.out.later hb7
          have HD := hid (HZ.out.done0 (w6 := w7) (l := l) (b := b) (q := q) (rs := rs) (HBT6.out.trans (But.below hb7)) hbox7 hres7 HL3.out HBE.out (fun u h1 h2 k hk => over_nil HC3.out hk (by omega) h2))
          obtain ⟨d0, d1, d2, d3⟩ := hbox7.cells
          have df7 : ∀ k, w7.frozen? ⟨B, k, none⟩ = false := fun k => frozen_of_row w7 B k _ _ hbox7
          have hbox8 := set4_box hbox7 (.int .i64 c) (.int .i64 n) (.slice (some ⟨g, 0, none⟩) tn k1) (.slice none 0 0)
          have hg8 := set4_grown hbox7 (.int .i64 c) (.int .i64 n) (.slice (some ⟨g, 0, none⟩) tn k1) (.slice none 0 0)
          have hres8 : StBox _ (S + 1) (.int .i64 0) (.int .i64 0) (.slice none 0 0) (.slice none 0 0) := (hg8.block (S + 1) (Array.getElem?_eq_some_iff.1 hres7).1 (fun e => by have := Option.some.inj e; omega)).trans hres7
          have HBX9 := hid (set4_box hres8 (.int .i64 c) (.int .i64 n) (.slice (some ⟨g, 0, none⟩) tn k1) (.slice none 0 0))
          obtain ⟨p0, p1, p2, p3⟩ := hbox8.cells
          obtain ⟨y0, y1, y2, y3⟩ := hres8.cells
          have yf : ∀ k, (set4 w7 B (.int .i64 c) (.int .i64 n) (.slice (some ⟨g, 0, none⟩) tn k1) (.slice none 0 0)).frozen? ⟨S + 1, k, none⟩ = false := fun k => frozen_of_row _ (S + 1) k _ _ hres8
          simp only [set4] at p0 p1 p2 p3 y0 y1 y2 y3 yf
          clear hb7 hbox7 hres7 hbox8 hg8 hres8
          go_wp2
          exact bodyPost_ret (v := .tuple #[.agg #[.int .i64 c, .int .i64 n, .slice (some ⟨g, 0, none⟩) tn k1, .slice none 0 0], .slice none 0 0, .slice none 0 0, .int .i64 0]) (results_row_tmp3 Tryz.results8 _ _ (S + 1) 25 #[.int .i64 c, .int .i64 n, .slice (some ⟨g, 0, none⟩) tn k1, .slice none 0 0] (0, 0) _ rfl HBX9.out Tryz.underlying25 rfl (by kernel_rfl)) rfl (Or.inr ⟨ht, HD.out⟩)
        · skip
          obtain ⟨hQ, hI⟩ := HZ.out.off
          have KL := lighten_own w4 c n (some ⟨g, 0, none⟩) tn k1 l3 B1 gb k3 bn b' HZ.out.bl HC3.out hc0 hc48 (QsIn.onL (ks := [S + 1, B]) hQ) (fun x hx => Inner.onL (ks := [S + 1, B]) (hI x hx)) HZ.out.row
          have HKL := hid KL
          have HQ := hid hQ
          have HI := hid hI
          clear KL hQ hI
          go_wp2_with fail
          refine HKL.out.mono ?_
          rintro e w5 ⟨b1, aw, a2, k2, rfl, hlit, hno, ho5, ha5, hg5⟩
          have hbz := HZ.out.bsz
          have hb1 := HZ.out.b1
          have hgb := (HZ.out.row.lt gb rfl)
          have hgB : gb ≠ B := fun e => by
            subst e
            exact HZ.out.box.not_row HZ.out.row rfl
          have hgS : gb ≠ S + 1 := by omega
          have hbox5 : StBox w5 B (.int .i64 c) (.int .i64 n) (.slice (some ⟨g, 0, none⟩) tn k1) (.slice (some ⟨gb, 0, none⟩) bn k3) := (hg5.block B hbz (fun e => hgB (Option.some.inj e).symm)).trans HZ.out.box
          have hres5 : StBox w5 (S + 1) (.int .i64 0) (.int .i64 0) (.slice none 0 0) (.slice none 0 0) := (hg5.block (S + 1) (by omega) (fun e => hgS (Option.some.inj e).symm)).trans HZ.out.res
          obtain ⟨W6, hW6⟩ : ∃ W6, W6 = (((w5.setCell ⟨B, 0, none⟩ (.int .i64 c)).setCell ⟨B, 1, none⟩ (.int .i64 n)).setCell ⟨B, 2, none⟩ (.slice (some ⟨g, 0, none⟩) tn k1)).setCell ⟨B, 3, none⟩ (.slice (some ⟨gb, 0, none⟩) b1.length k3) := ⟨_, rfl⟩
          have hbox6 : StBox W6 B (.int .i64 c) (.int .i64 n) (.slice (some ⟨g, 0, none⟩) tn k1) (.slice (some ⟨gb, 0, none⟩) b1.length k3) := by rw [hW6]; exact set4_box hbox5 _ _ _ _
          have hg6 : w5.grownBy W6 (some B) := by rw [hW6]; exact set4_grown hbox5 _ _ _ _
          have hres6 : StBox W6 (S + 1) (.int .i64 0) (.int .i64 0) (.slice none 0 0) (.slice none 0 0) := (hg6.block (S + 1) (Array.getElem?_eq_some_iff.1 hres5).1 (fun e => by have := Option.some.inj e; omega)).trans hres5
          have hbut6 : But [S + 1, B, gb] w4 W6 := (But.grown hg5 (by simp)).trans (But.grown hg6 (by simp))
          obtain ⟨t1, t2, t3, t4⟩ := hlit.clean HC3.out hc0
          have ho6 := ho5.kept hg6 (Or.inr fun e => hbox5.not_row ho5 e.symm)
          have ha6 := ha5.kept hg6 (Or.inr fun e => hbox5.not_row ha5 e.symm)
          have hsz6 : w4.heap.size ≤ W6.heap.size := hbut6.size
          have KS := settle_own W6 c n (some ⟨g, 0, none⟩) tn k1 l3 B1 gb k3 b1 aw a2 k2 (QsIn.onL (ks := [S + 1, B]) (HQ.out.later (offL_below hbut6))) (by have := HC3.out.few; omega) (fun x hx => Inner.onL (ks := [S + 1, B]) ((HI.out x (t2 x hx)).later (offL_below hbut6))) (fun x hx => Inner.onL (ks := [S + 1, B]) ((HI.out x (t3 x hx)).later (offL_below hbut6))) (fun x hx => (meets_bounds (clean_at HC3.out (t3 x hx)).1).2.2.2) ho6 (ownsRow_base ha6 (by omega)) (fun e => by have := (ha6.lt gb e).1; omega) (by omega)
          have HKS := hid KS
          have HLIT := hid hlit
          have HNO := hid hno
          have HT2 := hid t2
          have HT3 := hid t3
          have HBX6 := hid hbox6
          have HRS6 := hid hres6
          have HBT6 := hid hbut6
          have HW6 := hid hW6
          obtain ⟨d0, d1, d2, d3⟩ := hbox5.cells
          have df5 : ∀ k, w5.frozen? ⟨B, k, none⟩ = false := fun k => frozen_of_row w5 B k _ _ hbox5
          obtain ⟨p0, p1, p2, p3⟩ := hbox6.cells
          rw [hW6] at p0 p1 p2 p3
          have hbS : B ≠ S + 1 := by omega
          clear KS hlit hno ho5 ha5 hg5 hbox5 hres5 hbox6 hres6 hg6 hbut6 t1 t2 t3 t4 ho6 ha6 hW6 s0 s1 s2 s3 hBf
          go_wp2_with fail
          rw [← HW6.out]
          refine HKS.out.mono ?_
          rintro e w7 ⟨b9, mv, dr, gx, kx, ma, mk, da, dk, rfl, hstl, hrow7, hin7, hm7, hd7, hsy7, hg7⟩
          have hbox7 : StBox w7 B (.int .i64 c) (.int .i64 n) (.slice (some ⟨g, 0, none⟩) tn k1) (.slice (some ⟨gb, 0, none⟩) b1.length k3) := (hg7.block B (by omega) (fun e => hgB (Option.some.inj e).symm)).trans HBX6.out
          have hres7 : StBox w7 (S + 1) (.int .i64 0) (.int .i64 0) (.slice none 0 0) (.slice none 0 0) := (hg7.block (S + 1) (by omega) (fun e => hgS (Option.some.inj e).symm)).trans HRS6.out
          have hsw : w.heap.size ≤ W6.heap.size := by have := HZ.out.below.size; omega
          have HD := hid (HZ.out.done (w6 := w7) (l := l) (b := b) (q := q) (rs := rs) (HBT6.out.trans (But.grown hg7 (by simp))) hbox7 hres7 HL3.out HBE.out HLIT.out HT2.out HT3.out (fun u h1 h2 k hk => HNO.out u h1 h2 k (by have := HZ.out.qs.len; omega)) hstl hrow7 hin7 (ownsRow_base hm7 hsw) (ownsRow_base hd7 hsw) (by have := HZ.out.sz; omega))
          obtain ⟨d0, d1, d2, d3⟩ := hbox7.cells
          have df7 : ∀ k, w7.frozen? ⟨B, k, none⟩ = false := fun k => frozen_of_row w7 B k _ _ hbox7
          have hbox8 := set4_box hbox7 (.int .i64 c) (.int .i64 n) (.slice (some ⟨g, 0, none⟩) tn k1) (.slice (some ⟨gx, 0, none⟩) b9.length kx)
          have hg8 := set4_grown hbox7 (.int .i64 c) (.int .i64 n) (.slice (some ⟨g, 0, none⟩) tn k1) (.slice (some ⟨gx, 0, none⟩) b9.length kx)
          have hres8 : StBox _ (S + 1) (.int .i64 0) (.int .i64 0) (.slice none 0 0) (.slice none 0 0) := (hg8.block (S + 1) (Array.getElem?_eq_some_iff.1 hres7).1 (fun e => by have := Option.some.inj e; omega)).trans hres7
          have HBX9 := hid (set4_box hres8 (.int .i64 c) (.int .i64 n) (.slice (some ⟨g, 0, none⟩) tn k1) (.slice (some ⟨gx, 0, none⟩) b9.length kx))
          obtain ⟨p0, p1, p2, p3⟩ := hbox8.cells
          obtain ⟨y0, y1, y2, y3⟩ := hres8.cells
          have yf : ∀ k, (set4 w7 B (.int .i64 c) (.int .i64 n) (.slice (some ⟨g, 0, none⟩) tn k1) (.slice (some ⟨gx, 0, none⟩) b9.length kx)).frozen? ⟨S + 1, k, none⟩ = false := fun k => frozen_of_row _ (S + 1) k _ _ hres8
          simp only [set4] at p0 p1 p2 p3 y0 y1 y2 y3 yf
          clear hstl hrow7 hin7 hm7 hd7 hsy7 hg7 hbox7 hres7 hbox8 hg8 hres8
          go_wp2
          exact bodyPost_ret (v := .tuple #[.agg #[.int .i64 c, .int .i64 n, .slice (some ⟨g, 0, none⟩) tn k1, .slice (some ⟨gx, 0, none⟩) b9.length kx], .slice ma mv.length mk, .slice da dr.length dk, .int .i64 0]) (results_row_tmp3 Tryz.results8 _ _ (S + 1) 25 #[.int .i64 c, .int .i64 n, .slice (some ⟨g, 0, none⟩) tn k1, .slice (some ⟨gx, 0, none⟩) b9.length kx] (0, 0) _ rfl HBX9.out Tryz.underlying25 rfl (by kernel_rfl)) rfl (Or.inr ⟨ht, HD.out⟩)
      · have hne : (E != 0) = true := by simp [ht]
        obtain ⟨y0, y1, y2, y3⟩ := HZ.out.res.cells
        have yf : ∀ k, w4.frozen? ⟨S + 1, k, none⟩ = false := fun k => frozen_of_row w4 (S + 1) k _ _ HZ.out.res
        go_wp2_with fail
        have hst := four_stores w4 (S + 1) 25 _ _ _ _ (.int .i64 0) (.int .i64 0) (.slice none 0 0) (.slice none 0 0) HZ.out.res
        have h4 : w.heap.size ≤ S + 1 := by have := HS.out; omega
        refine bodyPost_ret (v := .tuple #[.agg #[.int .i64 0, .int .i64 0, .slice none 0 0, .slice none 0 0], .slice none 0 0, .slice none 0 0, .int .i64 E]) (results_row_tmp3 Tryz.results8 _ _ (S + 1) 25 #[.int .i64 0, .int .i64 0, .slice none 0 0, .slice none 0 0] (0, 0) _ rfl hst.1 Tryz.underlying25 rfl (by kernel_rfl)) rfl (Or.inl ⟨ht, rfl, ?_⟩)
        exact ((((HZ.out.below.setCell (p := ⟨S + 1, 0, none⟩) h4 _).setCell (p := ⟨S + 1, 1, none⟩) h4 _).setCell (p := ⟨S + 1, 2, none⟩) h4 _).setCell (p := ⟨S + 1, 3, none⟩) h4 _)
    exact trivial
end Go.Proofs.YtecibbokbonmcaeGreat

/- Less room, plain: what is taken away and put back is what a function of the bare queues and books tells. -/
namespace Go.Proofs.YtecibbokbonmcaeGreat

theorem overI_bare (l : QL) (b : BL) (t : Int) (q : Nat) : overI (bareQ l) (bareB b) t q = overI l b t q := by
  unfold overI leftT
  rw [len_bareB, takenTo_bare, qu_bare]
  rfl
theorem takesB_bare (X : Bk) (t : Int) : takesB X.bare t = takesB X t := by kernel_rfl
theorem standsIn_bare (l : QL) (p q : Int) : standsIn (bareQ l) p q = standsIn l p q := by
  unfold standsIn
  rw [lineOf_bare]
theorem hitsI_bare (l : QL) (b : BL) (t q : Int) (i : Nat) : hitsI (bareQ l) (bareB b) t q i = hitsI l b t q i := by
  unfold hitsI
  rw [bk_bare, takesB_bare]
  show (standsIn (bareQ l) (bk b i).rq.queue q && _) = _
  rw [standsIn_bare]
theorem lastI_bare (l : QL) (b : BL) (t q : Int) : ∀ n, lastI (bareQ l) (bareB b) t q n = lastI l b t q n
  | 0 => rfl
  | n + 1 => by rw [lastI, lastI, hitsI_bare, lastI_bare l b t q n]
theorem posI_bare (b : BL) (id : Int) : ∀ n, posI (bareB b) id n = posI b id n
  | 0 => rfl
  | n + 1 => by
    rw [posI, posI, posI_bare b id n, bk_bare]
    rfl
theorem putB_bare (b : BL) (x : Bk) : bareB (putB b x) = putB (bareB b) x.bare := by
  unfold putB insB
  show (List.map Bk.bare _) = _
  rw [len_bareB, show (x.bare).id = x.id from rfl, posI_bare]
  simp only [bareB, List.map_append, List.map_cons, List.map_take, List.map_drop]
theorem lessB_bare (b : BL) (i : Nat) : bareB (lessB b i) = lessB (bareB b) i := by
  unfold lessB
  simp only [bareB, List.map_append, List.map_take, List.map_drop]
theorem firstAns_bare {c : Int} {l : QL} {b : BL} {n : Nat} {t q : Int} {f : Bool} (h : FirstAns c l b n t q f) : FirstAns c (bareQ l) (bareB b) n t q f := by
  rcases h with ⟨h1, h2, h3, h4⟩ | ⟨h1, h2, h3, k, h4, h5, h6, h7, h8⟩
  · exact Or.inl ⟨h1, h2, h3, fun u a1 a2 k hk => by rw [overI_bare]; exact h4 u a1 a2 k hk⟩
  · exact Or.inr ⟨h1, h2, h3, k, h4, h5, by rw [overI_bare]; exact h6, fun i hi => by rw [overI_bare]; exact h7 i hi, fun u a1 a2 i hi => by rw [overI_bare]; exact h8 u a1 a2 i hi⟩
theorem Lit.bare {c : Int} {l : QL} {b0 b aw : BL} (h : Lit c l b0 b aw) : Lit c (bareQ l) (bareB b0) (bareB b) (bareB aw) := by
  induction h with
  | start => exact Lit.start
  | @step b aw t q _ hf ih =>
    rw [lessB_bare, putB_bare, ← bk_bare]
    have h1 := firstAns_bare hf
    have h2 := Lit.step ih (by rw [len_bareQ]; exact h1)
    rw [len_bareB, lastI_bare] at h2
    exact h2
/-- the first of n queues of which too much is taken at t -/
def overQ (l : QL) (b : BL) (t : Int) : Nat → Nat → Option Nat
  | 0, _ => none
  | n + 1, q => if overI l b t q = true then some q else overQ l b t n (q + 1)
/-- the soonest time, n of them from t on -/
def overT (l : QL) (b : BL) : Nat → Int → Option (Int × Nat)
  | 0, _ => none
  | n + 1, t => match overQ l b t l.length 0 with
    | some q => some (t, q)
    | none => overT l b n (t + 1)
theorem overQ_none {l : QL} {b : BL} {t : Int} : ∀ {n q : Nat}, (∀ i, q ≤ i → i < q + n → overI l b t i = false) → overQ l b t n q = none
  | 0, _, _ => rfl
  | n + 1, q, h => by
    rw [overQ, h q (Nat.le_refl _) (by omega), if_neg (by decide)]
    exact overQ_none fun i h1 h2 => h i (by omega) (by omega)
theorem overQ_some {l : QL} {b : BL} {t : Int} {k : Nat} (hk : overI l b t k = true) : ∀ {n q : Nat}, q ≤ k → k < q + n → (∀ i, q ≤ i → i < k → overI l b t i = false) → overQ l b t n q = some k
  | 0, _, h1, h2, _ => by omega
  | n + 1, q, h1, h2, h3 => by
    rw [overQ]
    by_cases e : q = k
    · subst e; rw [if_pos hk]
    · rw [h3 q (Nat.le_refl _) (by omega), if_neg (by decide)]
      exact overQ_some hk (by omega) (by omega) fun i a1 a2 => h3 i (by omega) a2
theorem overT_none {l : QL} {b : BL} : ∀ {n : Nat} {t : Int}, (∀ u, t ≤ u → u < t + n → ∀ i, i < l.length → overI l b u i = false) → overT l b n t = none
  | 0, _, _ => rfl
  | n + 1, t, h => by
    rw [overT, overQ_none fun i _ hi => h t (Int.le_refl _) (by omega) i (by omega)]
    exact overT_none fun u h1 h2 => h u (by omega) (by omega)
theorem overT_some {l : QL} {b : BL} {s : Int} {k : Nat} (hk : overI l b s k = true) (hkl : k < l.length) (hf : ∀ i, i < k → overI l b s i = false) : ∀ {n : Nat} {t : Int}, t ≤ s → s < t + n → (∀ u, t ≤ u → u < s → ∀ i, i < l.length → overI l b u i = false) → overT l b n t = some (s, k)
  | 0, _, h1, h2, _ => by omega
  | n + 1, t, h1, h2, h3 => by
    rw [overT]
    by_cases e : t = s
    · subst e
      rw [overQ_some hk (Nat.zero_le _) (by omega) fun i _ hi => hf i hi]
    · rw [overQ_none fun i _ hi => h3 t (Int.le_refl _) (by omega) i (by omega)]
      exact overT_some hk hkl hf (by omega) (by omega) fun u a1 a2 => h3 u (by omega) a2
/-- books are taken away, at most k of them -/
def litF (c : Int) (l : QL) : Nat → BL → BL → BL × BL
  | 0, b, aw => (b, aw)
  | k + 1, b, aw => match overT l b (48 - c).toNat c with
    | none => (b, aw)
    | some (t, q) => litF c l k (lessB b (lastI l b t q b.length)) (putB aw (bk b (lastI l b t q b.length)))
theorem litF_run {c : Int} {l : QL} {b0 b aw : BL} (h : Lit c l b0 b aw) : ∀ k, litF c l (aw.length + k) b0 [] = litF c l k b aw := by
  induction h with
  | start => intro k; rw [List.length_nil, Nat.zero_add]
  | @step b aw t q _ hf ih =>
    intro k
    rw [putB_len, Nat.add_assoc, Nat.add_comm 1 k, ih (k + 1), litF]
    rcases hf with ⟨e, _⟩ | ⟨_, t0, t1, j, hj, hqj, ho, hf1, hf2⟩
    · cases e
    · have hq : q = j := by omega
      subst hq
      rw [overT_some ho hj hf1 t0 (by omega) hf2]
theorem litF_is {c : Int} {l : QL} {b0 b aw : BL} (h : Lit c l b0 b aw) (hno : ∀ u, c ≤ u → u < 48 → ∀ q, q < l.length → overI l b u q = false) {m : Nat} (hm : aw.length ≤ m) : litF c l m b0 [] = (b, aw) := by
  obtain ⟨k, rfl⟩ : ∃ k, m = aw.length + k := ⟨m - aw.length, by omega⟩
  rw [litF_run h k]
  cases k with
  | zero => rfl
  | succ k => rw [litF, overT_none fun u h1 h2 i hi => hno u h1 (by omega) i hi]
theorem begunB_bare (X : Bk) (c : Int) : begunB X.bare c = begunB X c := by kernel_rfl
theorem placeR_bare (l : QL) (b : BL) (r : Rq) : placeR (bareQ l) (bareB b) r.bare = placeR l b r := by
  unfold placeR
  show (if roomE (bareQ l) (bareB b) r.queue = 0 then (if placeErr (roomR (bareQ l) (bareB b) r.queue) r.bare = 0 then findA r.bare (roomR (bareQ l) (bareB b) r.queue) else ([], false)) else ([], false)) = _
  rw [roomE_bare, roomR_bare, findA_bare]
  rfl
theorem replR_bare (c : Int) (l : QL) (b : BL) (X : Bk) : replR c (bareQ l) (bareB b) X.bare = replR c l b X := by
  unfold replR
  rw [begunB_bare, show X.bare.rq.from c = (X.rq.from c).bare from rfl, placeR_bare]
/-- those that were taken away are put back -/
def stlF (c : Int) (l : QL) : BL → BL → List Int → List Int → BL × List Int × List Int
  | [], b, mv, dr => (b, mv, dr)
  | X :: r, b, mv, dr => if (replR c l b X).2 = true then stlF c l r (putB b ⟨X.id, X.rq, none, 0, 0, (replR c l b X).1⟩) (mv ++ [X.id]) dr else stlF c l r b mv (dr ++ [X.id])
theorem stlF_run {c : Int} {l : QL} {b1 aw b : BL} {j : Nat} {mv dr : List Int} (h : Stl c l b1 aw j b mv dr) : stlF c (bareQ l) (bareB aw) (bareB b1) [] [] = stlF c (bareQ l) (bareB (aw.drop j)) (bareB b) mv dr := by
  induction h with
  | start => rfl
  | @moved j b mv dr fa fm fc _ hj hr ih =>
    rw [ih, show aw.drop j = bk aw j :: aw.drop (j + 1) by rw [bk_is hj]; exact (List.getElem_cons_drop hj).symm]
    show stlF c (bareQ l) ((bk aw j).bare :: bareB (aw.drop (j + 1))) _ _ _ = _
    rw [stlF, replR_bare, if_pos hr, putB_bare]
    rfl
  | @dropped j b mv dr _ hj hr ih =>
    rw [ih, show aw.drop j = bk aw j :: aw.drop (j + 1) by rw [bk_is hj]; exact (List.getElem_cons_drop hj).symm]
    show stlF c (bareQ l) ((bk aw j).bare :: bareB (aw.drop (j + 1))) _ _ _ = _
    rw [stlF, replR_bare, if_neg (by rw [hr]; decide)]
    rfl
theorem stlF_is {c : Int} {l : QL} {b1 aw b : BL} {mv dr : List Int} (h : Stl c l b1 aw aw.length b mv dr) : stlF c (bareQ l) (bareB aw) (bareB b1) [] [] = (bareB b, mv, dr) := by
  rw [stlF_run h, List.drop_length]
  rfl
/-- what Change answers, by a function of what is bare -/
def cutF (c : Int) (l : QL) (b : BL) : BL × List Int × List Int := stlF c l (litF c l 12 b []).2 (litF c l 12 b []).1 [] []
theorem cutF_is {c : Int} {l : QL} {b0 b1 aw b : BL} {mv dr : List Int} (hc : Clean l b0) (h0 : 0 ≤ c) (h : Lit c l b0 b1 aw) (hno : ∀ u, c ≤ u → u < 48 → ∀ q, q < l.length → overI l b1 u q = false) (hs : Stl c l b1 aw aw.length b mv dr) : cutF c (bareQ l) (bareB b0) = (bareB b, mv, dr) := by
  have hlen := (h.clean hc h0).2.2.2
  have hfew := hc.few
  have h1 := litF_is h.bare (fun u a1 a2 q hq => by rw [overI_bare]; exact hno u a1 a2 q (by rw [len_bareQ] at hq; exact hq)) (m := 12) (by rw [len_bareB]; omega)
  unfold cutF
  rw [h1]
  exact stlF_is hs
end Go.Proofs.YtecibbokbonmcaeGreat

/- cut.First; and what package cut tells of the farm. -/
namespace Go.Proofs.YtecibbokbonmcaeGreat
open Go.RowKit

theorem results_tmp4 {fn : Func} {t u v x : Tmp} (h : fn.results = #[.tmp t, .tmp u, .tmp v, .tmp x]) (tmps : Array Value) (P : Program) (w : World) :
    (results fn tmps).run P w = .ok (.tuple #[tmps.getD t undef, tmps.getD u undef, tmps.getD v undef, tmps.getD x undef]) w := by
  simp [results, h]
/-- what Change tells, by the function of what is bare -/
def ChTold (w w' : World) (e : Ending) (c n : Int) (tn : Nat) (l : QL) (b : BL) (q : Nat) (rs : RunL) : Prop :=
  ∃ (g k1 : Nat) (l9 : QL) (aa : Option Addr) (k9 : Nat) (b9 : BL) (mv dr : List Int) (ma : Option Addr) (mk : Nat) (da : Option Addr) (dk : Nat),
    e = .returned (.tuple #[.agg #[.int .i64 c, .int .i64 n, .slice (some ⟨g, 0, none⟩) tn k1, .slice aa (List.length b9) k9], .slice ma (List.length mv) mk, .slice da (List.length dr) dk, .int .i64 0]) ∧ StIn w' (some ⟨g, 0, none⟩) tn k1 l9 aa b9.length k9 b9 ∧ cutF c (bareQ (capL l q rs)) (bareB b) = (bareB b9, mv, dr) ∧ OwnInts w' w.heap.size (.slice ma mv.length mk) mv ∧ OwnInts w' w.heap.size (.slice da dr.length dk) dr ∧ Below w.heap.size w w'
theorem ChAns.told {w w' : World} {e : Ending} {c n : Int} {tn : Nat} {l : QL} {b : BL} {q : Nat} {rs : RunL} (h : ChAns w w' e c n tn l b q rs) (hp : planE c n l b = 0) (ht : chkT (capL l q rs) = 0) : ChTold w w' e c n tn l b q rs := by
  obtain ⟨g, k1, l9, aa, k9, b9, b0, b1, aw, mv, dr, ma, mk, da, dk, he, hs, hl, hb, hlit, hno, hstl, hm, hd, hbe⟩ := h
  have hSo := sound_of hp
  have hlen : l9.length = l.length := by
    have h1 := congrArg List.length hl
    rw [len_bareQ, len_bareQ, capL_len] at h1
    exact h1
  have hc : Clean l9 b0 := clean_cap (clean_same hSo.clean hb) (by rw [← chkT_bare, hl, chkT_bare]; exact ht) hlen
  refine ⟨g, k1, l9, aa, k9, b9, mv, dr, ma, mk, da, dk, he, hs, ?_, hm, hd, hbe⟩
  rw [← hl, ← hb]
  exact cutF_is hc hSo.c0 hlit hno hstl

set_option maxRecDepth 100000 in
set_option maxHeartbeats 2000000 in
theorem FirstC_any (w : World) (c n : Int) (ta : Option Addr) (tn tc : Nat) (l : QL) (ba : Option Addr) (bn bc : Nat) (b : BL) (h : StIn w ta tn tc l ba bn bc b) (hk : chkL l b = 0) (h0 : 0 ≤ c) (h1 : c ≤ 48) (hp : planE c n l b = 0 ∨ planE c n l b = 10) :
    Calls Tryz.prog 9 #[.agg #[.int .i64 c, .int .i64 n, .slice ta tn tc, .slice ba bn bc]] w fun e w' => ∃ t q f, e = .returned (.tuple #[.int .i64 t, .int .i64 q, .bool f, .int .i64 0]) ∧ FirstAns c l b tn t q f ∧ Below w.heap.size w w' := by
  obtain ⟨S, hS⟩ : ∃ S, w.heap.size = S := ⟨_, rfl⟩
  obtain ⟨W1, hW1⟩ : ∃ W1, W1 = w.alloc (.cells #[.int .i64 c, .int .i64 n, .slice ta tn tc, .slice ba bn bc] 25) := ⟨_, rfl⟩
  have hb0 : Below w.heap.size w W1 := by rw [hW1]; exact (Below.refl _ _).alloc (Nat.le_refl _) _
  have x1 : StBox W1 S (.int .i64 c) (.int .i64 n) (.slice ta tn tc) (.slice ba bn bc) := by rw [hW1, ← hS]; exact StBox.new w _ _ _ _
  have K1 := CheckS_any W1 c n ta tn tc l ba bn bc b (h.later hb0)
  have K2 := hid fun X (hX : Below w.heap.size w X) => first_any X c n ta tn tc l ba bn bc b (h.later hX) hk h0 h1
  obtain ⟨E, hE⟩ : ∃ E, planE c n l b = E := ⟨_, rfl⟩
  rw [hE] at K1 hp
  have HK1 := hid K1
  have X1 := hid x1
  have HB0 := hid hb0
  have HW1 := hid hW1
  obtain ⟨c0, c1, c2, c3⟩ := x1.cells
  clear K1 x1 hb0 hW1 h hE
  rcases hp with rfl | rfl
  all_goals
    go_enter Tryz.func9, Tryz.ntmps9
    go_wp2_with fail
    rw [← HW1.out]
    refine HK1.out.mono ?_
    rintro e w1 ⟨rfl, hb⟩
    have HX1 := hid (X1.out.later hb)
    have HB1 := hid (below_from HB0.out hb)
    clear hb c0 c1 c2 c3
    obtain ⟨c0, c1, c2, c3⟩ := HX1.out.cells
    go_wp2_with fail
    refine (K2.out w1 HB1.out).mono ?_
    rintro e w2 ⟨t, q, f, rfl, hans, hb⟩
    have HA := hid hans
    have HB2 := hid (below_from HB1.out hb)
    clear hans hb
    go_wp2
    exact bodyPost_ret (v := .tuple #[.int .i64 t, .int .i64 q, .bool f, .int .i64 0]) (results_tmp4 Tryz.results9 _ _ _) rfl ⟨t, q, f, rfl, HA.out, HB2.out⟩
theorem ck_ok (c d e : Nat) : planE 5 6 (faL c 10) (faB d e) = 0 := by kernel_rfl
theorem ck_t1 (c : Nat) : chkT (capL (faL c 10) 1 [(0, 3), (22, 6)]) = 0 := by kernel_rfl
theorem ck_t0 (c : Nat) : chkT (capL (faL c 10) 1 []) = 1 := by kernel_rfl
theorem ck_t2 (c : Nat) : chkT (capL (faL c 10) 0 [(0, 9)]) = 0 := by kernel_rfl
theorem ck_1 (c d e : Nat) : (cutF 5 (bareQ (capL (faL c 10) 1 [(0, 3), (22, 6)])) (bareB (faB d e))).2 = ([1], []) := by kernel_rfl
theorem ck_1b (c d e : Nat) : (cutF 5 (bareQ (capL (faL c 10) 1 [(0, 3), (22, 6)])) (bareB (faB d e))).1.length = 2 ∧ (bk (cutF 5 (bareQ (capL (faL c 10) 1 [(0, 3), (22, 6)])) (bareB (faB d e))).1 0).bs = [(0, 5), (1, 22)] := ⟨by kernel_rfl, by kernel_rfl⟩
theorem ck_2 (c d e : Nat) : (cutF 5 (bareQ (capL (faL c 10) 0 [(0, 9)])) (bareB (faB d e))).2 = ([4], []) := by kernel_rfl
theorem ck_2b (c d e : Nat) : (cutF 5 (bareQ (capL (faL c 10) 0 [(0, 9)])) (bareB (faB d e))).1.length = 2 ∧ (bk (cutF 5 (bareQ (capL (faL c 10) 0 [(0, 9)])) (bareB (faB d e))).1 1).bs = [(0, 5)] := ⟨by kernel_rfl, by kernel_rfl⟩
theorem ck_k9 (c d e : Nat) : chkL (faL c 9) (faB d e) = 0 := by kernel_rfl
theorem ck_p9 (c d e : Nat) : planE 5 6 (faL c 9) (faB d e) = 10 := by kernel_rfl
theorem ck_k (c d e : Nat) : chkL (faL c 10) (faB d e) = 0 := by kernel_rfl
theorem ck_f (c d e : Nat) : overT (faL c 10) (faB d e) 43 5 = none := by kernel_rfl
theorem ck_f9 (c d e : Nat) : overT (faL c 9) (faB d e) 43 5 = some (13, 0) := by kernel_rfl
/-- First's answer is what the search tells -/
theorem firstC_told {c : Int} {l : QL} {b : BL} {t q : Int} {f : Bool} (h : FirstAns c l b l.length t q f) (h0 : 0 ≤ c) (h1 : c ≤ 48) : (overT l b (48 - c).toNat c = none ∧ f = false ∧ t = 0 ∧ q = 0) ∨ ∃ k : Nat, overT l b (48 - c).toNat c = some (t, k) ∧ f = true ∧ q = k := by
  rcases h with ⟨hf, ht, hq, hno⟩ | ⟨hf, t0, t1, k, hk, hq, ho, hf1, hf2⟩
  · exact Or.inl ⟨overT_none fun u a1 a2 i hi => hno u a1 (by omega) i hi, hf, ht, hq⟩
  · exact Or.inr ⟨k, overT_some ho hk hf1 t0 (by omega) hf2, hf, hq⟩
end Go.Proofs.YtecibbokbonmcaeGreat

/- cut.Change and cut.First at the farm. -/
namespace Go.Proofs.YtecibbokbonmcaeGreat
open Go.RowKit

theorem SameInts_same (w : World) (a1 a2 : Option Addr) (n cap1 cap2 : Nat) (l : List Int) (h1 : IntsIn w a1 n cap1 l) (h2 : IntsIn w a2 n cap2 l) :
   Calls Tryz.prog 14 #[.slice a1 n cap1, .slice a2 n cap2] w fun e w' => e = .returned (.bool true) ∧ ∃ d, w' = w.drewN d := by
  have hle := h1.le
  have hcb := h1.capb
  have HC1 := hid h1.cells
  have HC2 := hid h2.cells
  clear h1 h2
  have hne : ((n : Int) != n) = false := by simp
  by_cases hp : 0 < n
  · obtain ⟨b1, o1, rfl, c1⟩ := HC1.out hp
    obtain ⟨b2, o2, rfl, c2⟩ := HC2.out hp
    go_enter Tryz.func14, Tryz.ntmps14
    go_wp2
    go_loopw [5] (fun s wr => ∃ j : Nat, s = .int .i64 j ∧ j ≤ n ∧ ∃ d, wr = w.drewN d) (fun s _ => n - (intOf s).toNat)
    case atStart => exact ⟨0, rfl, by omega, 0, rfl⟩
    case round =>
      obtain ⟨j, rfl, hj1, hd⟩ := hrel
      have HD : Hid (∃ d, wr = w.drewN d) := hd
      have hcr : ∀ a, wr.cell? a = w.cell? a := by obtain ⟨d, rfl⟩ := hd; exact fun a => rfl
      clear hd
      by_cases hj : j < n
      · have hj' : (j : Int) < n := by omega
        have d0 := (hcr _).trans (c1 j hj)
        have e0 := (hcr _).trans (c2 j hj)
        obtain ⟨z, hz⟩ : ∃ z, l.getD j 0 = z := ⟨_, rfl⟩
        rw [hz] at d0 e0
        have hzz : (z != z) = false := by simp
        clear hcr c1 c2 hz
        go_wp2
        go_quiet (fail)
        go_wp2
        go_roundw
        case rel => exact ⟨j + 1, by go_num, by omega, drawn_more HD _⟩
        case measure => simp [intOf]; omega
      · obtain rfl : n = j := by omega
        clear hcr c1 c2
        go_wp2
        go_ret
        exact ⟨rfl, HD.out⟩
  · obtain rfl : n = 0 := by omega
    go_enter Tryz.func14, Tryz.ntmps14
    go_wp2
    go_loop [5] (fun s => s = .int .i64 0) (fun _ => 0)
    case atStart => rfl
    case round =>
      subst hrel
      go_wp2
      go_ret
      exact ⟨rfl, 0, rfl⟩

theorem fa_C1 (w : World) (c d e P : Nat) (hF : FarmIn w c d e 10) (hr : RunsIn w (some ⟨P, 0, none⟩) 2 2 [(0, 3), (22, 6)]) :
    Calls Tryz.prog 8 #[.agg #[.int .i64 5, .int .i64 6, .slice (some ⟨c + 4, 0, none⟩) 4 4, .slice (some ⟨e + 3, 0, none⟩) 2 2], .int .i64 1, .slice (some ⟨P, 0, none⟩) 2 2] w fun r w' => ∃ g k1 gb ob k9 ba bc ma mk da dk, r = .returned (.tuple #[.agg #[.int .i64 5, .int .i64 6, .slice (some ⟨g, 0, none⟩) 4 k1, .slice (some ⟨gb, ob, none⟩) 2 k9], .slice ma 1 mk, .slice da 0 dk, .int .i64 0]) ∧ (2 ≤ k9 ∧ k9 ≤ 9223372036854775807) ∧ w'.cell? ⟨gb, ob + 0 * 7 + 6, none⟩ = some (.slice ba 2 bc) ∧ RunsIn w' ba 2 bc [(0, 5), (1, 22)] ∧ IntsIn w' ma 1 mk [1] ∧ Below w.heap.size w w' := by
  refine (Change_any w 5 6 _ _ _ _ _ _ _ _ hF.st 1 (by decide) _ _ _ _ hr (by decide) (ck_ok c d e)).mono ?_
  rintro r w' (⟨h, _⟩ | ⟨_, h⟩)
  · exact absurd (ck_t1 c) h
  · obtain ⟨g, k1, l9, aa, k9, b9, mv, dr, ma, mk, da, dk, rfl, hs, hcut, hm, hd, hb⟩ := h.told (ck_ok c d e) (ck_t1 c)
    have h2 := congrArg Prod.snd hcut
    rw [ck_1] at h2
    have hmv : mv = [1] := (congrArg Prod.fst h2).symm
    have hdr : dr = [] := (congrArg Prod.snd h2).symm
    have h1 := ck_1b c d e
    rw [congrArg Prod.fst hcut] at h1
    have hlen : b9.length = 2 := by have := h1.1; rw [len_bareB] at this; exact this
    have hbs : (bk b9 0).bs = [(0, 5), (1, 22)] := by have := h1.2; rw [bk_bare] at this; exact this
    subst hmv hdr
    obtain ⟨a', k', e', hI⟩ := OwnInts.parts hm
    simp only [Value.slice.injEq] at e'
    obtain ⟨rfl, _, rfl⟩ := e'
    have hbt := hs.2.bites 0 (by omega)
    obtain ⟨b0, o0, rfl, hc⟩ := hs.2.cells (by omega)
    have c6 := (hc 0 (by omega)).2.2.2.2.2.2
    rw [hbs] at hbt
    have hn := hbt.len
    rw [hn] at hbt c6
    have hle := hs.2.le
    have hcb := hs.2.capb
    rw [hlen] at hle ⊢
    exact ⟨g, k1, b0, o0, k9, _, _, ma, mk, da, dk, rfl, ⟨hle, hcb⟩, c6, hbt, hI, hb⟩

theorem fa_C2 (w : World) (c d e P : Nat) (hF : FarmIn w c d e 10) (hr : RunsIn w (some ⟨P, 0, none⟩) 1 1 [(0, 9)]) :
    Calls Tryz.prog 8 #[.agg #[.int .i64 5, .int .i64 6, .slice (some ⟨c + 4, 0, none⟩) 4 4, .slice (some ⟨e + 3, 0, none⟩) 2 2], .int .i64 0, .slice (some ⟨P, 0, none⟩) 1 1] w fun r w' => ∃ g k1 gb ob k9 ba bc ma mk da dk, r = .returned (.tuple #[.agg #[.int .i64 5, .int .i64 6, .slice (some ⟨g, 0, none⟩) 4 k1, .slice (some ⟨gb, ob, none⟩) 2 k9], .slice ma 1 mk, .slice da 0 dk, .int .i64 0]) ∧ (2 ≤ k9 ∧ k9 ≤ 9223372036854775807) ∧ w'.cell? ⟨gb, ob + 1 * 7 + 6, none⟩ = some (.slice ba 1 bc) ∧ RunsIn w' ba 1 bc [(0, 5)] ∧ IntsIn w' ma 1 mk [4] ∧ Below w.heap.size w w' := by
  refine (Change_any w 5 6 _ _ _ _ _ _ _ _ hF.st 0 (by decide) _ _ _ _ hr (by decide) (ck_ok c d e)).mono ?_
  rintro r w' (⟨h, _⟩ | ⟨_, h⟩)
  · exact absurd (ck_t2 c) h
  · obtain ⟨g, k1, l9, aa, k9, b9, mv, dr, ma, mk, da, dk, rfl, hs, hcut, hm, hd, hb⟩ := h.told (ck_ok c d e) (ck_t2 c)
    have h2 := congrArg Prod.snd hcut
    rw [ck_2] at h2
    have hmv : mv = [4] := (congrArg Prod.fst h2).symm
    have hdr : dr = [] := (congrArg Prod.snd h2).symm
    have h1 := ck_2b c d e
    rw [congrArg Prod.fst hcut] at h1
    have hlen : b9.length = 2 := by have := h1.1; rw [len_bareB] at this; exact this
    have hbs : (bk b9 1).bs = [(0, 5)] := by have := h1.2; rw [bk_bare] at this; exact this
    subst hmv hdr
    obtain ⟨a', k', e', hI⟩ := OwnInts.parts hm
    simp only [Value.slice.injEq] at e'
    obtain ⟨rfl, _, rfl⟩ := e'
    have hbt := hs.2.bites 1 (by omega)
    obtain ⟨b0, o0, rfl, hc⟩ := hs.2.cells (by omega)
    have c6 := (hc 1 (by omega)).2.2.2.2.2.2
    rw [hbs] at hbt
    have hn := hbt.len
    rw [hn] at hbt c6
    have hle := hs.2.le
    have hcb := hs.2.capb
    rw [hlen] at hle ⊢
    exact ⟨g, k1, b0, o0, k9, _, _, ma, mk, da, dk, rfl, ⟨hle, hcb⟩, c6, hbt, hI, hb⟩

theorem fa_C0 (w : World) (c d e : Nat) (hF : FarmIn w c d e 10) :
    Calls Tryz.prog 8 #[.agg #[.int .i64 5, .int .i64 6, .slice (some ⟨c + 4, 0, none⟩) 4 4, .slice (some ⟨e + 3, 0, none⟩) 2 2], .int .i64 1, .slice none 0 0] w fun r w' => r = .returned (.tuple #[.agg #[.int .i64 0, .int .i64 0, .slice none 0 0, .slice none 0 0], .slice none 0 0, .slice none 0 0, .int .i64 1]) ∧ Below w.heap.size w w' := by
  refine (Change_any w 5 6 _ _ _ _ _ _ _ _ hF.st 1 (by decide) none 0 0 [] ⟨rfl, Nat.le_refl _, by omega, by omega, fun h => by omega⟩ (by decide) (ck_ok c d e)).mono ?_
  rintro r w' (⟨_, h, hb⟩ | ⟨h, _⟩)
  · rw [ck_t0] at h
    exact ⟨h, hb⟩
  · rw [ck_t0] at h; cases h
theorem fa_F0 (w : World) (c d e : Nat) (hF : FarmIn w c d e 10) :
    Calls Tryz.prog 9 #[.agg #[.int .i64 5, .int .i64 6, .slice (some ⟨c + 4, 0, none⟩) 4 4, .slice (some ⟨e + 3, 0, none⟩) 2 2]] w fun r w' => r = .returned (.tuple #[.int .i64 0, .int .i64 0, .bool false, .int .i64 0]) ∧ Below w.heap.size w w' := by
  refine (FirstC_any w 5 6 _ _ _ _ _ _ _ _ hF.st (ck_k c d e) (by decide) (by decide) (Or.inl (ck_ok c d e))).mono ?_
  rintro r w' ⟨t, q, f, rfl, ha, hb⟩
  rcases firstC_told ha (by decide) (by decide) with ⟨_, rfl, rfl, rfl⟩ | ⟨k, h, _⟩
  · exact ⟨rfl, hb⟩
  · rw [show ((48 : Int) - 5).toNat = 43 from rfl, ck_f] at h; cases h
theorem fa_F9 (w : World) (c d e : Nat) (hF : FarmIn w c d e 9) :
    Calls Tryz.prog 9 #[.agg #[.int .i64 5, .int .i64 6, .slice (some ⟨c + 4, 0, none⟩) 4 4, .slice (some ⟨e + 3, 0, none⟩) 2 2]] w fun r w' => r = .returned (.tuple #[.int .i64 13, .int .i64 0, .bool true, .int .i64 0]) ∧ Below w.heap.size w w' := by
  refine (FirstC_any w 5 6 _ _ _ _ _ _ _ _ hF.st (ck_k9 c d e) (by decide) (by decide) (Or.inr (ck_p9 c d e))).mono ?_
  rintro r w' ⟨t, q, f, rfl, ha, hb⟩
  rcases firstC_told ha (by decide) (by decide) with ⟨h, _⟩ | ⟨k, h, rfl, rfl⟩
  · rw [show ((48 : Int) - 5).toNat = 43 from rfl, ck_f9] at h; cases h
  · rw [show ((48 : Int) - 5).toNat = 43 from rfl, ck_f9] at h
    simp only [Option.some.injEq, Prod.mk.injEq] at h
    obtain ⟨rfl, rfl⟩ := h
    exact ⟨rfl, hb⟩
end Go.Proofs.YtecibbokbonmcaeGreat

/- The statements' own cutBegun: what must be in any case is so. -/
namespace Go.Proofs.YtecibbokbonmcaeGreat
open Go.RowKit

/-- what a Change has told, in a box of the caller's -/
structure TBox (W : World) (S g k1 gb ob k9 off : Nat) (ba : Option Addr) (n bc : Nat) (bs : RunL) (ma : Option Addr) (mk : Nat) (id : Int) : Prop where
  box : StBox W S (.int .i64 5) (.int .i64 6) (.slice (some ⟨g, 0, none⟩) 4 k1) (.slice (some ⟨gb, ob, none⟩) 2 k9)
  cell : W.cell? ⟨gb, ob + off * 7 + 6, none⟩ = some (.slice ba n bc)
  runs : RunsIn W ba n bc bs
  ints : IntsIn W ma 1 mk [id]
theorem TBox.later {W W' : World} {S g k1 gb ob k9 off : Nat} {ba : Option Addr} {n bc : Nat} {bs : RunL} {ma : Option Addr} {mk : Nat} {id : Int} (h : TBox W S g k1 gb ob k9 off ba n bc bs ma mk id) (hb : Below W.heap.size W W') : TBox W' S g k1 gb ob k9 off ba n bc bs ma mk id :=
  ⟨h.box.later hb, cell_later hb h.cell, h.runs.later hb, h.ints.later hb⟩
theorem one_int {w : World} {P : Nat} {x : Int} (h : w.heap[P]? = some (.cells #[.int .i64 x] 3 (0, 0))) : IntsIn w (some ⟨P, 0, none⟩) 1 1 [x] :=
  ⟨rfl, Nat.le_refl _, by omega, fun _ => ⟨P, 0, rfl, fun i hi => by obtain rfl : i = 0 := by omega
                                                                     rw [cell_of_row w P _ _ _ _ h]; rfl⟩⟩
theorem drew_below (w : World) (d : Nat) : Below w.heap.size w (w.drewN d) := ⟨rfl, rfl, rfl, Nat.le_refl _, fun _ _ => rfl⟩

set_option maxRecDepth 100000 in
set_option maxHeartbeats 8000000 in
theorem cutBegun_any (w : World) : Calls Tryz.prog 12 #[] w fun e w' => e = .returned (.bool true) ∧ Below w.heap.size w w' := by
  go_enter Tryz.func12, Tryz.ntmps12
  go_wp2_with fail
  refine (farm_any w).mono ?_
  rintro e w1 ⟨c1, d1, e1, rfl, hF, hb, _⟩
  have HB1 := hid hb
  obtain ⟨V1, hV⟩ : ∃ V, V = w1.alloc (.cells #[.int .i64 0, .int .i64 3, .int .i64 22, .int .i64 6] 71) := ⟨_, rfl⟩
  have hbV : Below w1.heap.size w1 V1 := by rw [hV]; exact (Below.refl _ _).alloc (Nat.le_refl _) _
  obtain ⟨P1, hP⟩ : ∃ P, w1.heap.size = P := ⟨_, rfl⟩
  have hL : RunsIn V1 (some ⟨P1, 0, none⟩) 2 2 [(0, 3), (22, 6)] := by rw [hV, ← hP]; exact runs_block (heap_alloc_new w1 _) _ 2 rfl rfl (Nat.le_of_ble_eq_true (by kernel_rfl))
  have HL1 := hid hL
  have HF1 := hid (hF.later hbV)
  have HV1 := hid hV
  have HBV1 := hid (below_from HB1.out hbV)
  clear hF hb hV hbV hL
  go_wp2_with fail
  rw [← HV1.out]
  refine (fa_C1 V1 c1 d1 e1 P1 HF1.out HL1.out).mono ?_
  rintro e w2 ⟨g2, k2, gb2, ob2, k92, ba2, bc2, ma2, mk2, da2, dk2, rfl, ⟨hk2, hkb2⟩, h6, hrb, hmi, hb⟩
  have HB2 := hid (below_from HBV1.out hb)
  obtain ⟨U2, hU⟩ : ∃ U, U = w2.alloc (.cells #[.int .i64 5, .int .i64 6, .slice (some ⟨g2, 0, none⟩) 4 k2, .slice (some ⟨gb2, ob2, none⟩) 2 k92] 25) := ⟨_, rfl⟩
  have hbU : Below w2.heap.size w2 U2 := by rw [hU]; exact (Below.refl _ _).alloc (Nat.le_refl _) _
  obtain ⟨SA, hSA⟩ : ∃ S, w2.heap.size = S := ⟨_, rfl⟩
  have HA2 : Hid (TBox U2 SA g2 k2 gb2 ob2 k92 0 ba2 2 bc2 [(0, 5), (1, 22)] ma2 mk2 1) := hid ⟨by rw [hU, ← hSA]; exact StBox.new w2 _ _ _ _, cell_later hbU h6, hrb.later hbU, hmi.later hbU⟩
  have HU2 := hid hU
  have HBU2 := hid (below_from HB2.out hbU)
  clear h6 hrb hmi hb hU hbU
  go_wp2_with fail
  rw [← HU2.out]
  refine (farm_any U2).mono ?_
  rintro e w3 ⟨c3, d3, e3, rfl, hF, hb, _⟩
  have HB3 := hid (below_from HBU2.out hb)
  have HA3 := hid (HA2.out.later hb)
  have HF3 := hid hF
  clear hF hb HA2
  go_wp2_with fail
  refine (fa_C0 w3 c3 d3 e3 HF3.out).mono ?_
  rintro e w4 ⟨rfl, hb⟩
  have HB4 := hid (below_from HB3.out hb)
  have hA4 := HA3.out.later hb
  obtain ⟨U4, hU⟩ : ∃ U, U = w4.alloc (.cells #[.int .i64 0, .int .i64 0, .slice none 0 0, .slice none 0 0] 25) := ⟨_, rfl⟩
  have hbU : Below w4.heap.size w4 U4 := by rw [hU]; exact (Below.refl _ _).alloc (Nat.le_refl _) _
  have HU4 := hid hU
  have HBU4 := hid (below_from HB4.out hbU)
  have HA4 := hid (hA4.later hbU)
  clear hb hU hbU hA4 HA3 HF3
  go_wp2_with fail
  rw [← HU4.out]
  refine (farm_any U4).mono ?_
  rintro e w5 ⟨c5, d5, e5, rfl, hF, hb, _⟩
  have HB5 := hid (below_from HBU4.out hb)
  have HA5 := hid (HA4.out.later hb)
  have HF5 := hid hF
  clear hF hb HA4
  go_wp2_with fail
  refine (fa_F0 w5 c5 d5 e5 HF5.out).mono ?_
  rintro e w6 ⟨rfl, hb⟩
  have HB6 := hid (below_from HB5.out hb)
  have HA6 := hid (HA5.out.later hb)
  clear hb HA5 HF5
  go_wp2_with fail
  refine (farm_any w6).mono ?_
  rintro e w7 ⟨c7, d7, e7, rfl, hF, hb, hc7⟩
  obtain ⟨V8, hV8⟩ : ∃ V8, V8 = w7.alloc (.cells #[.int .i64 5, .int .i64 6, .slice (some ⟨c7 + 4, 0, none⟩) 4 4, .slice (some ⟨e7 + 3, 0, none⟩) 2 2] 25) := ⟨_, rfl⟩
  obtain ⟨S8, hS8⟩ : ∃ S8, w7.heap.size = S8 := ⟨_, rfl⟩
  have hbV : Below w7.heap.size w7 V8 := by rw [hV8]; exact (Below.refl _ _).alloc (Nat.le_refl _) _
  have hbx : StBox V8 S8 (.int .i64 5) (.int .i64 6) (.slice (some ⟨c7 + 4, 0, none⟩) 4 4) (.slice (some ⟨e7 + 3, 0, none⟩) 2 2) := by rw [hV8, ← hS8]; exact StBox.new w7 _ _ _ _
  have hFV := hF.later hbV
  have r1 : (w7.alloc (.cells #[.int .i64 5, .int .i64 6, .slice (some ⟨c7 + 4, 0, none⟩) 4 4, .slice (some ⟨e7 + 3, 0, none⟩) 2 2] 25)).cell? ⟨c7 + 4, 2, none⟩ = some (.slice (some ⟨c7, 0, none⟩) 1 1) := by rw [← hV8, cell_of_row V8 (c7 + 4) 2 _ _ _ hFV.b4]; rfl
  have r2 : (w7.alloc (.cells #[.int .i64 5, .int .i64 6, .slice (some ⟨c7 + 4, 0, none⟩) 4 4, .slice (some ⟨e7 + 3, 0, none⟩) 2 2] 25)).cell? ⟨c7, 1, none⟩ = some (.int .i64 10) := by rw [← hV8, cell_of_row V8 c7 1 _ _ _ hFV.b0]; rfl
  have r3 : (w7.alloc (.cells #[.int .i64 5, .int .i64 6, .slice (some ⟨c7 + 4, 0, none⟩) 4 4, .slice (some ⟨e7 + 3, 0, none⟩) 2 2] 25)).frozen? ⟨c7, 1, none⟩ = false := by rw [← hV8]; exact frozen_of_row V8 c7 1 _ _ hFV.b0
  obtain ⟨Ua, hUa⟩ : ∃ Ua, Ua = w7.setCell ⟨c7, 1, none⟩ (.int .i64 9) := ⟨_, rfl⟩
  obtain ⟨U8, hU8⟩ : ∃ U8, U8 = Ua.alloc (.cells #[.int .i64 5, .int .i64 6, .slice (some ⟨c7 + 4, 0, none⟩) 4 4, .slice (some ⟨e7 + 3, 0, none⟩) 2 2] 25) := ⟨_, rfl⟩
  have hlt8 : c7 < S8 := by have := (Array.getElem?_eq_some_iff.1 hF.b0).1; omega
  have hbU : Below w6.heap.size w6 Ua := by rw [hUa]; exact hb.setCell (p := ⟨c7, 1, none⟩) hc7 _
  have hbU2 : Below Ua.heap.size Ua U8 := by rw [hU8]; exact (Below.refl _ _).alloc (Nat.le_refl _) _
  have hb8 : Below w6.heap.size w6 U8 := below_from hbU hbU2
  have hF8 : FarmIn U8 c7 d7 e7 9 := (show FarmIn Ua c7 d7 e7 9 from by rw [hUa]; exact hF.lower 9).later hbU2
  have HA8 := hid (HA6.out.later hb8)
  have HB8 := hid (below_from HB6.out hb8)
  have HF8 := hid hF8
  have HU8 : Hid (U8 = (w7.setCell ⟨c7, 1, none⟩ (.int .i64 9)).alloc (.cells #[.int .i64 5, .int .i64 6, .slice (some ⟨c7 + 4, 0, none⟩) 4 4, .slice (some ⟨e7 + 3, 0, none⟩) 2 2] 25)) := by rw [hUa] at hU8; exact hU8
  clear hF hb hbV hbx hFV hU8 hb8 hF8 hV8 hc7 hUa hbU hbU2 HA6
  go_wp2_with fail
  rw [← HU8.out]
  refine (fa_F9 U8 c7 d7 e7 HF8.out).mono ?_
  rintro e w9 ⟨rfl, hb⟩
  have HB9 := hid (below_from HB8.out hb)
  have HA9 := hid (HA8.out.later hb)
  clear hb HA8 HF8 r1 r2 r3
  go_wp2_with fail
  refine (farm_any w9).mono ?_
  rintro e w10 ⟨c10, d10, e10, rfl, hF, hb, _⟩
  have HB10 := hid (below_from HB9.out hb)
  have hA10 := HA9.out.later hb
  obtain ⟨V10, hV⟩ : ∃ V, V = w10.alloc (.cells #[.int .i64 0, .int .i64 9] 71) := ⟨_, rfl⟩
  have hbV : Below w10.heap.size w10 V10 := by rw [hV]; exact (Below.refl _ _).alloc (Nat.le_refl _) _
  obtain ⟨P10, hP⟩ : ∃ P, w10.heap.size = P := ⟨_, rfl⟩
  have hL : RunsIn V10 (some ⟨P10, 0, none⟩) 1 1 [(0, 9)] := by rw [hV, ← hP]; exact runs_block (heap_alloc_new w10 _) _ 1 rfl rfl (Nat.le_of_ble_eq_true (by kernel_rfl))
  have HL10 := hid hL
  have HF10 := hid (hF.later hbV)
  have HV10 := hid hV
  have HBV10 := hid (below_from HB10.out hbV)
  have HAV10 := hid (hA10.later hbV)
  clear hF hb hV hbV hL hA10 HA9
  go_wp2_with fail
  rw [← HV10.out]
  refine (fa_C2 V10 c10 d10 e10 P10 HF10.out HL10.out).mono ?_
  rintro e w11 ⟨g11, k11, gb11, ob11, k911, ba11, bc11, ma11, mk11, da11, dk11, rfl, ⟨hk11, hkb11⟩, h6, hrb, hmi, hb⟩
  have HB11 := hid (below_from HBV10.out hb)
  have hA11 := HAV10.out.later hb
  obtain ⟨U11, hU⟩ : ∃ U, U = w11.alloc (.cells #[.int .i64 5, .int .i64 6, .slice (some ⟨g11, 0, none⟩) 4 k11, .slice (some ⟨gb11, ob11, none⟩) 2 k911] 25) := ⟨_, rfl⟩
  have hbU : Below w11.heap.size w11 U11 := by rw [hU]; exact (Below.refl _ _).alloc (Nat.le_refl _) _
  obtain ⟨SB, hSB⟩ : ∃ S, w11.heap.size = S := ⟨_, rfl⟩
  have HC11 : Hid (TBox U11 SB g11 k11 gb11 ob11 k911 1 ba11 1 bc11 [(0, 5)] ma11 mk11 4) := hid ⟨by rw [hU, ← hSB]; exact StBox.new w11 _ _ _ _, cell_later hbU h6, hrb.later hbU, hmi.later hbU⟩
  have HA11 := hid (hA11.later hbU)
  have HU11 := hid hU
  have HBU11 := hid (below_from HB11.out hbU)
  have hsz11 : U11.heap.size = SB + 1 := by rw [hU, ← hSB]; simp
  obtain ⟨V12, hV⟩ : ∃ V, V = U11.alloc (.cells #[.int .i64 1] 3) := ⟨_, rfl⟩
  have hbV : Below U11.heap.size U11 V12 := by rw [hV]; exact (Below.refl _ _).alloc (Nat.le_refl _) _
  have HKI := hid (SameInts_same V12 _ _ 1 _ _ _ (HA11.out.ints.later hbV) (one_int (P := SB + 1) (by rw [hV, ← hsz11]; exact heap_alloc_new U11 _)))
  have HBV12 := hid (below_from HBU11.out hbV)
  have HAV12 := hid (HA11.out.later hbV)
  have HCV12 := hid (HC11.out.later hbV)
  have HV12 := hid hV
  clear h6 hrb hmi hb hA11 hU hbU hV hbV HA11 HC11 HF10 HL10 HAV10
  go_wp2_with fail
  rw [← HU11.out, ← HV12.out]
  refine HKI.out.mono ?_
  rintro e w13 ⟨rfl, dd, hw13⟩
  have hb13 : Below V12.heap.size V12 w13 := by rw [hw13]; exact drew_below V12 dd
  have hA13 := HAV12.out.later hb13
  have hC13 := HCV12.out.later hb13
  have HB13 := hid (below_from HBV12.out hb13)
  obtain ⟨V14, hV⟩ : ∃ V, V = w13.alloc (.cells #[.int .i64 0, .int .i64 5, .int .i64 1, .int .i64 22] 49) := ⟨_, rfl⟩
  have hbV : Below w13.heap.size w13 V14 := by rw [hV]; exact (Below.refl _ _).alloc (Nat.le_refl _) _
  have HKB := hid (SameBites_same V14 _ _ 2 _ _ _ (hA13.runs.later hbV) (show RunsIn V14 (some ⟨w13.heap.size, 0, none⟩) 2 2 [(0, 5), (1, 22)] from by rw [hV]; exact runs_block (heap_alloc_new w13 _) _ 2 rfl rfl (Nat.le_of_ble_eq_true (by kernel_rfl))))
  have HBV14 := hid (below_from HB13.out hbV)
  have HCV14 := hid (hC13.later hbV)
  have HV14 := hid hV
  obtain ⟨p0, p1, p2, p3⟩ := hA13.box.cells
  have p6 := hA13.cell
  simp only [Nat.zero_mul, Nat.add_zero] at p6
  clear hb13 hw13 hA13 hC13 hV hbV HAV12 HCV12
  go_wp2_with fail
  rw [← HV14.out]
  refine HKB.out.mono ?_
  rintro e w15 ⟨rfl, dd, hw15⟩
  have hb15 : Below V14.heap.size V14 w15 := by rw [hw15]; exact drew_below V14 dd
  have hC15 := HCV14.out.later hb15
  have HB15 := hid (below_from HBV14.out hb15)
  obtain ⟨V16, hV⟩ : ∃ V, V = w15.alloc (.cells #[.int .i64 4] 3) := ⟨_, rfl⟩
  have hbV : Below w15.heap.size w15 V16 := by rw [hV]; exact (Below.refl _ _).alloc (Nat.le_refl _) _
  have HKJ := hid (SameInts_same V16 _ _ 1 _ _ _ (hC15.ints.later hbV) (one_int (P := w15.heap.size) (by rw [hV]; exact heap_alloc_new w15 _)))
  have HBV16 := hid (below_from HB15.out hbV)
  have HCV16 := hid (hC15.later hbV)
  have HV16 := hid hV
  clear hb15 hw15 hC15 hV hbV HCV14 p0 p1 p2 p3 p6
  go_wp2_with fail
  rw [← HV16.out]
  refine HKJ.out.mono ?_
  rintro e w17 ⟨rfl, dd, hw17⟩
  have hb17 : Below V16.heap.size V16 w17 := by rw [hw17]; exact drew_below V16 dd
  have hC17 := HCV16.out.later hb17
  have HB17 := hid (below_from HBV16.out hb17)
  obtain ⟨V18, hV⟩ : ∃ V, V = w17.alloc (.cells #[.int .i64 0, .int .i64 5] 49) := ⟨_, rfl⟩
  have hbV : Below w17.heap.size w17 V18 := by rw [hV]; exact (Below.refl _ _).alloc (Nat.le_refl _) _
  have HKC := hid (SameBites_same V18 _ _ 1 _ _ _ (hC17.runs.later hbV) (show RunsIn V18 (some ⟨w17.heap.size, 0, none⟩) 1 1 [(0, 5)] from by rw [hV]; exact runs_block (heap_alloc_new w17 _) _ 1 rfl rfl (Nat.le_of_ble_eq_true (by kernel_rfl))))
  have HBV18 := hid (below_from HB17.out hbV)
  have HV18 := hid hV
  obtain ⟨p0, p1, p2, p3⟩ := hC17.box.cells
  have p6 := hC17.cell
  simp only [Nat.one_mul] at p6
  clear hb17 hw17 hC17 hV hbV HCV16
  go_wp2_with fail
  rw [← HV18.out]
  refine HKC.out.mono ?_
  rintro e w19 ⟨rfl, dd, hw19⟩
  have HB19 := hid (below_from HBV18.out (show Below V18.heap.size V18 w19 by rw [hw19]; exact drew_below V18 dd))
  clear hw19 p0 p1 p2 p3 p6
  go_wp2
  go_ret
  exact ⟨rfl, HB19.out⟩
end Go.Proofs.YtecibbokbonmcaeGreat
