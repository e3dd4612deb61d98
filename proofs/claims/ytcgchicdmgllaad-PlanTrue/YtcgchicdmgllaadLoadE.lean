/- Contract of load.Of, where there is no error. -/
import Derived.Test.YtcgchicdmgllaadLoadD
namespace Go.Proofs.Ytcgchicdmgllaad
open Go.RowKit Go.Shelf

attribute [local go_sem] Oper.semAt_some

/-- as leaves_marks; rows of cells lie as they lay -/
theorem leaves_marksC {F : Fence} {n : Nat} {P : Program} {fn : Func} {tmps : Array Value} {R : Ending → World → Prop} (B : Nat) : ∀ (ds : List Nat) (W : World), B ≤ W.heap.size → ds.Nodup → (∀ D ∈ ds, B ≤ D ∧ W.heap[D]? = some (.deferred (some []))) →
    (∀ W', Below B W W' → (∀ (k : Nat) (o : Obj), W.heap[k]? = some o → o.isCells = true → W'.heap[k]? = some o) → LeavesIn F n P fn tmps R [] .returning W') → LeavesInM F n P fn tmps R (ds.map fun D => { target := .collected D, args := #[] }) .returning W
  | [], W, _, _, _, h => h W (Below.refl _ _) (fun _ _ h _ => h)
  | D :: ds, W, hB, hnd, hm, h => by
    have hD := hm D (by simp)
    have hb : Below B W (W.putObj D (.deferred none)) := (Below.refl B W).grown (grownBy_putObj' W D _) hB (fun k e => by cases e; exact hD.1)
    rw [List.nodup_cons] at hnd
    refine ⟨by simp, .inl ⟨D, _, rfl, run_takeDeferred hD.2, leaves_marksC B ds _ (Nat.le_trans hB hb.size) hnd.2 (fun D' hD' => ⟨(hm D' (by simp [hD'])).1, ?_⟩) (fun W' hW' hcl => h W' (hb.trans hW') (fun k o hk ho => hcl k o ?_ ho))⟩⟩
    · rw [World.putObj_heap_other (fun e => by subst e; exact hnd.1 hD')]
      exact (hm D' (by simp [hD'])).2
    · rw [World.putObj_heap_other (fun e => by subst e; rw [hD.2] at hk; cases hk; cases ho)]
      exact hk
theorem RunsIn.kept {X Y : World} {a : Option Addr} {n cap : Nat} {l : RunL} (h : RunsIn X a n cap l) (hcl : ∀ (k : Nat) (o : Obj), X.heap[k]? = some o → o.isCells = true → Y.heap[k]? = some o) : RunsIn Y a n cap l := by
  refine ⟨h.len, h.le, h.bound, h.capb, fun hp => ?_⟩
  obtain ⟨b, off, ha, hc⟩ := h.cells hp
  have hlt : b < X.heap.size := block_lt_of_cell (hc 0 hp).1
  have e : Y.heap[b]? = X.heap[b]? := by
    have h1 : X.heap[b]? = some X.heap[b] := Array.getElem?_eq_getElem hlt
    rw [h1]
    refine hcl b _ h1 ?_
    have h3 := (hc 0 hp).1
    simp only [World.cell?, h1] at h3
    cases ho : X.heap[b] with
    | cells => rfl
    | _ => rw [ho] at h3; simp at h3
  exact ⟨b, off, ha, fun i hi => ⟨(World.cell?_of_block (w := X) (a := ⟨b, off + i * 2, none⟩) e).trans (hc i hi).1, (World.cell?_of_block (w := X) (a := ⟨b, off + i * 2 + 1, none⟩) e).trans (hc i hi).2⟩⟩
theorem Tk.marks {W1 W W' : World} {G n B : Nat} {T : Nat → RunL} (h : Tk W1 W G n T) (hb : Below B W W') (hcl : ∀ (k : Nat) (o : Obj), W.heap[k]? = some o → o.isCells = true → W'.heap[k]? = some o) (hG : W1.heap.size = B ∧ G < B) : Tk W1 W' G n T := by
  obtain ⟨v, hv, hq⟩ := h.row
  refine ⟨hb.os.trans h.os, hb.tape.trans h.tape, hb.output.trans h.output, Nat.le_trans h.size hb.size, fun k hk hne => (hb.block k (by omega)).trans (h.block k hk hne), v, hv.of_block (hb.block G hG.2), fun q hqn => ?_⟩
  obtain ⟨a, m, c, h1, h2, h3⟩ := hq q hqn
  exact ⟨a, m, c, h1, h2.kept hcl, h3⟩
/-- between two books -/
def OInv (qb qo n cap G : Nat) (ba : Option Addr) (bn bc : Nat) (l : QL) (b : BL) (c8 c25 c26 c27 c28 c29 c30 c31 : Value) (W1 : World) (a : Act) (W : World) : Prop :=
  ∃ (j : Nat) (ds : List Nat) (u10 u35 u36 u37 u38 u39 u40 u41 u42 u53 : Value), a = { tmps := #[.slice (some ⟨qb, qo, none⟩) n cap, .slice ba bn bc, undef, undef, .slice none 0 0, .int .i64 0, .int .i64 0, .pointer (some ⟨G + 1, 0, none⟩), c8, undef, u10, undef, .slice (some ⟨qb, qo, none⟩) n cap, .slice ba bn bc, .int .i64 0, .int .i64 0, .bool false, undef, .slice (some ⟨qb, qo, none⟩) n cap, .int .i64 n, .slice (some ⟨G, 0, none⟩) n n, .slice (some ⟨G, 0, none⟩) n n, .int .i64 n, .int .i64 n, .bool false, c25, c26, c27, c28, c29, c30, c31, .slice ba bn bc, .int .i64 bn, .int .i64 j, u35, u36, u37, u38, u39, u40, u41, u42, undef, undef, undef, undef, undef, undef, undef, undef, undef, undef, u53, undef], defers := ds.map fun D => { target := .collected D, args := #[] } } ∧
    j ≤ bn ∧ Tk W1 W G n (takenTo l b j) ∧ (∀ D ∈ ds, G + 2 ≤ D ∧ D < W.heap.size ∧ W.heap[D]? = some (.deferred (some []))) ∧ ds.Nodup
def OMu (bn : Nat) (a : Act) (_ : World) : Nat := bn - (intOf (a.tmps.getD 34 undef)).toNat
theorem of_next {qb qo n cap G : Nat} {ba : Option Addr} {bn bc : Nat} {l : QL} {b : BL} {c8 c25 c26 c27 c28 c29 c30 c31 : Value} {W1 W W0 W' : World} {j D : Nat} {T : Nat → RunL} {ds : List Nat} {u10 u35 u36 u37 u38 u39 u40 u41 u42 u53 : Value} (hj : j < bn) (hA : Tk W1 W G n T) (hB0 : Below W.heap.size W W0) (hAf : Tk W0 W' G n (takenTo l b (j + 1))) (hsW : G + 2 ≤ W.heap.size) (hs1 : W1.heap.size = G + 2)
    (hms : ∀ D ∈ ds, G + 2 ≤ D ∧ D < W.heap.size ∧ W.heap[D]? = some (.deferred (some []))) (hnd : ds.Nodup) (hD : W0.heap.size ≤ D) (hK : W'.heap[D]? = some (.deferred (some []))) :
    OInv qb qo n cap G ba bn bc l b c8 c25 c26 c27 c28 c29 c30 c31 W1 { tmps := #[.slice (some ⟨qb, qo, none⟩) n cap, .slice ba bn bc, undef, undef, .slice none 0 0, .int .i64 0, .int .i64 0, .pointer (some ⟨G + 1, 0, none⟩), c8, undef, u10, undef, .slice (some ⟨qb, qo, none⟩) n cap, .slice ba bn bc, .int .i64 0, .int .i64 0, .bool false, undef, .slice (some ⟨qb, qo, none⟩) n cap, .int .i64 n, .slice (some ⟨G, 0, none⟩) n n, .slice (some ⟨G, 0, none⟩) n n, .int .i64 n, .int .i64 n, .bool false, c25, c26, c27, c28, c29, c30, c31, .slice ba bn bc, .int .i64 bn, .int .i64 ((j : Int) + 1), u35, u36, u37, u38, u39, u40, u41, u42, undef, undef, undef, undef, undef, undef, undef, undef, undef, undef, u53, undef], defers := { target := .collected D, args := #[] } :: (ds.map fun D => { target := .collected D, args := #[] }) } W' := by
  refine ⟨j + 1, D :: ds, u10, u35, u36, u37, u38, u39, u40, u41, u42, u53, by simp, hj, ?_, fun D' hD' => ?_, ?_⟩
  · exact hAf.from (fun k hk hne => (hB0.block k (by omega)).trans (hA.block k hk hne)) (hB0.os.trans hA.os) (hB0.tape.trans hA.tape) (hB0.output.trans hA.output) (Nat.le_trans hA.size hB0.size)
  · rw [List.mem_cons] at hD'
    rcases hD' with rfl | hD'
    · exact ⟨by have := hB0.size; omega, (Array.getElem?_eq_some_iff.1 hK).1, hK⟩
    · obtain ⟨h1, h2, h3⟩ := hms D' hD'
      exact ⟨h1, by have := hB0.size; have := hAf.size; omega, (hAf.block D' (by have := hB0.size; omega) (by omega)).trans ((hB0.block D' h2).trans h3)⟩
  · rw [List.nodup_cons]
    exact ⟨fun hD' => by have := (hms D hD').2.1; have := hB0.size; omega, hnd⟩

set_option maxRecDepth 100000 in
set_option maxHeartbeats 4000000 in
theorem Of_ok (w : World) (a : Option Addr) (n cap : Nat) (l : QL) (hl : QsIn w a n cap l) (ba : Option Addr) (bn bc : Nat) (b : BL) (hb : BksIn w ba bn bc b) (hc : chkL l b = 0) :
    Calls Try.prog 24 #[.slice a n cap, .slice ba bn bc] w fun e w' => ∃ G, e = .returned (.tuple #[.slice (some ⟨G, 0, none⟩) n n, .int .i64 0]) ∧ w.heap.size ≤ G ∧ (∀ q, q < n → ∃ a m c, w'.cell? ⟨G, q, none⟩ = some (.slice a m c) ∧ RunsIn w' a m c (takenTo l b b.length q)) ∧ Below w.heap.size w w' := by
  have HN := hid hl.len
  have hcb := hl.capb
  have hle := hl.le
  obtain ⟨ht, h12, hbk⟩ := no_error hc
  have HR := hid (right_of ht)
  have hp : 0 < n := by have := HR.out.pos; have := HN.out; omega
  have h5 : n ≤ 5 := by have := HR.out.five; have := HN.out; omega
  obtain ⟨qb, qo, rfl, hcell⟩ := hl.cells hp
  have hblt : qb < w.heap.size := block_lt_of_cell (hcell 0 hp).1
  have HC := hid hcell
  have HL := hid hl
  have HBK := hid hb
  have HBN := hid hb.len
  have hble := hb.le
  have hbcb := hb.capb
  have HOK := hid fun i (hi : i < b.length) => no_error_at ht (hbk i hi)
  have hK := checkL_any w (some ⟨qb, qo, none⟩) n cap l hl ba bn bc b hb
  rw [hc] at hK
  have HK := hid hK
  clear hcell hl hb hc ht h12 hbk hK
  have hmk := run_make_row' (P := Try.prog) 57 29 (.slice none 0 0) 24 Try.underlying57 Try.info47 rfl .i64 .i64 n (by omega) (by omega)
  refine (callsIn_wide (n := 4)).1 ?_
  refine callsIn_of_wp_marks Try.func24 rfl trivial ?_ rfl
  simp only [Try.ntmps24, List.size_toArray, List.length_cons, List.length_nil, Nat.reduceAdd, Nat.reduceSub, Array.replicate_succ, Array.replicate_zero, List.push_toArray, List.append_toArray, List.nil_append, List.cons_append]
  gi_wp2_with fail
  refine ⟨trivial, (callsIn_wide.2 HK.out).mono ?_⟩
  rintro e w1 ⟨rfl, B1⟩
  have HB1 := hid B1
  have hsz1 : w.heap.size ≤ w1.heap.size := B1.size
  clear B1
  gi_wp2_with fail
  clear hmk
  obtain ⟨W1, hW1⟩ : ∃ W1, (w1.alloc (.cells (madeCells #[.slice none 0 0] n) 29)).alloc (.cells #[.slice (some ⟨w1.heap.size, 0, none⟩) n n] 57) = W1 := ⟨_, rfl⟩
  have T1 : Hid (W1.rowIs w1.heap.size 29 n (fun _ => .slice none 0 0)) := by rw [← hW1]; exact (World.rowIs_made w1 _ n 29).alloc _
  have bU : Hid (Boxed W1 (w1.heap.size + 1) 57 (.slice (some ⟨w1.heap.size, 0, none⟩) n n)) := by
    rw [← hW1]
    have := Boxed.new (w1.alloc (.cells (madeCells #[.slice none 0 0] n) 29)) 57 (.slice (some ⟨w1.heap.size, 0, none⟩) n n)
    rwa [World.size_alloc] at this
  have BW1 : Hid (Below w1.heap.size w1 W1) := by rw [← hW1]; exact ((Below.refl _ w1).alloc (Nat.le_refl _) _).alloc (by simp) _
  have hsW1 : W1.heap.size = w1.heap.size + 2 := by rw [← hW1]; simp
  rw [hW1]
  clear hW1
  have TK1 : Hid (Tk W1 W1 w1.heap.size n (fun _ => [])) := ⟨rfl, rfl, rfl, Nat.le_refl _, fun _ _ _ => rfl, _, T1.out, fun q hq => ⟨none, 0, 0, rfl, runsIn_nil _, fun b off e => by cases e⟩⟩
  obtain ⟨G, hG⟩ : ∃ G, w1.heap.size = G := ⟨_, rfl⟩
  rw [hG] at T1 bU BW1 hsW1 TK1 hsz1
  rw [hG]
  have HG := hid hG
  clear hG
  have cU := bU.out.cell
  gi_wp2_with fail
  gi_loopw [8, 23] (fun _ p wr => ∃ i : Nat, p = .int .i64 i ∧ i ≤ n ∧ Tk W1 wr G n (fun q => if q < i then [(0, 0)] else [])) (fun _ p _ => n - (intOf p).toNat)
  case atStart => exact ⟨0, rfl, by omega, TK1.out.congr fun q hq => by rw [if_neg (by omega)]⟩
  case round =>
    clear cU
    obtain ⟨i, rfl, hi, htk⟩ := hrel
    have HT := hid htk
    have cU := (htk.box bU.out (by omega)).cell
    have hszr : W1.heap.size ≤ wr.heap.size := htk.size
    have hGr : G < wr.heap.size := by omega
    have hG1r : G + 1 < wr.heap.size := by omega
    clear htk
    by_cases hlt : i < n
    · have hlt' : (i : Int) < n := by omega
      obtain ⟨a', m', c', tc, tf, _, _⟩ := HT.out.at hlt
      gi_wp2
      go_roundw
      case rel =>
        have hb2 : Below wr.heap.size wr (wr.alloc (.cells #[.int .i64 0, .int .i64 0] 70)) := (Below.refl _ _).alloc (Nat.le_refl _) _
        have h1 := (HT.out.later hb2).hit i (a := some ⟨wr.heap.size, 0, none⟩) (m := 1) (c := 1) (g := [(0, 0)]) (runs_lit wr [(0, 0)] _ 1 rfl rfl (by simp)) (fun b off e => by cases e; omega)
        rw [World.setCell_alloc_past (hn := hGr)] at h1
        exact ⟨i + 1, by go_num, by omega, h1.congr fun q hq => by
          by_cases e : q = i
          · rw [if_pos e, if_pos (by omega)]
          · rw [if_neg e]
            by_cases e2 : q < i
            · rw [if_pos e2, if_pos (by omega)]
            · rw [if_neg e2, if_neg (by omega)]⟩
      case measure => simp [intOf]; omega
    · obtain rfl : n = i := by omega
      have HT0 : Hid (Tk W1 wr G n (takenTo l b 0)) := HT.out.congr fun q hq => by rw [if_pos hq]; rfl
      gi_wp2_with fail
      refine wpIn_loop (OInv qb qo n cap G ba bn bc l b u8 u25 u26 u27 u28 u29 u30 u31 W1) (OMu bn) ?start ?round
      case start => exact ⟨0, [], undef, undef, undef, undef, undef, undef, undef, undef, undef, undef, rfl, by omega, HT0.out, fun D hD => by simp at hD, by simp⟩
      case round =>
        clear cU HT HT0 hszr hGr hG1r hlt hi
        rintro a W ⟨j, ds, u10, u35, u36, u37, u38, u39, u40, u41, u42, u53, rfl, hj, hA, hms, hnd⟩
        have HA := hid hA
        have HMS := hid hms
        have HND := hid hnd
        have hsW : G + 2 ≤ W.heap.size := by have := hA.size; omega
        have hbw : Below w.heap.size w W := (HB1.out.trans (BW1.out.mono (by have := HG.out; omega))).trans (hA.below (B := w.heap.size) (by omega) (by omega))
        have HBW := hid hbw
        clear hA hms hnd hbw
        generalize hds : (ds.map fun D => ({ target := .collected D, args := #[] } : Deferred)) = dm
        have HDS := hid hds
        clear hds
        by_cases hlt : j < bn
        · have hlt' : (j : Int) < bn := by omega
          obtain ⟨bb, bo, rfl, hcs⟩ := HBK.out.cells (by omega)
          obtain ⟨c0, c1, c2, c3, c4, c5, c6⟩ := hcs j hlt
          have hbbl : bb < w.heap.size := block_lt_of_cell c0
          have hbblW : bb < W.heap.size := by have := HBW.out.size; omega
          replace c0 := cell_later HBW.out c0
          replace c1 := cell_later HBW.out c1
          replace c2 := cell_later HBW.out c2
          replace c3 := cell_later HBW.out c3
          replace c4 := cell_later HBW.out c4
          replace c5 := cell_later HBW.out c5
          replace c6 := cell_later HBW.out c6
          obtain ⟨hm, hq0, hq1⟩ := HOK.out j (by have := HBN.out; omega)
          have hrq := HBK.out.rqs j hlt
          have hbt := HBK.out.bites j hlt
          have HTK : Hid (takenTo l b (j + 1) = addAll (bk b j) (takenTo l b j) (lineOf l (bk b j).rq.queue)) := rfl
          obtain ⟨X, hX⟩ : ∃ X, bk b j = X := ⟨_, rfl⟩
          rw [hX] at c0 c1 c2 c3 c4 c5 c6 hm hq0 hq1 hrq hbt HTK
          have HM := hid hm
          have HRQ := hid hrq
          have HBT := hid hbt
          clear hX hm hrq hbt hcs
          gi_wp2_with fail
          refine ⟨trivial, (up_in Fence.wide _ trivial rfl _ _ _ ⟨_, _, _, rfl⟩).mono ?_⟩
          rintro e w2 ⟨rfl, rfl⟩
          gi_wp2_with fail
          have bJ := Boxed.new ((W.alloc (.cells #[.int .i64 X.id, .int .i64 X.rq.queue, .int .i64 X.rq.fr, .int .i64 X.rq.un, .int .i64 X.rq.kind, .slice X.rq.pa X.rq.pn X.rq.pc, .slice X.ba X.bn X.bc] 40)).alloc (.cells #[.slice (some ⟨qb, qo, none⟩) n cap] 22)) 3 (.int .i64 X.rq.queue)
          have bL := Boxed.new (W.alloc (.cells #[.int .i64 X.id, .int .i64 X.rq.queue, .int .i64 X.rq.fr, .int .i64 X.rq.un, .int .i64 X.rq.kind, .slice X.rq.pa X.rq.pn X.rq.pc, .slice X.ba X.bn X.bc] 40)) 22 (.slice (some ⟨qb, qo, none⟩) n cap)
          rw [World.size_alloc] at bL
          rw [World.size_alloc, World.size_alloc] at bJ
          have bL' := bL.alloc (.cells #[.int .i64 X.rq.queue] 3)
          have hB0 : Below W.heap.size W (((W.alloc (.cells #[.int .i64 X.id, .int .i64 X.rq.queue, .int .i64 X.rq.fr, .int .i64 X.rq.un, .int .i64 X.rq.kind, .slice X.rq.pa X.rq.pn X.rq.pc, .slice X.ba X.bn X.bc] 40)).alloc (.cells #[.slice (some ⟨qb, qo, none⟩) n cap] 22)).alloc (.cells #[.int .i64 X.rq.queue] 3)) := (((Below.refl _ W).alloc (Nat.le_refl _) _).alloc (by simp) _).alloc (by simp; omega) _
          have hBX : Below (W.alloc (.cells #[.int .i64 X.id, .int .i64 X.rq.queue, .int .i64 X.rq.fr, .int .i64 X.rq.un, .int .i64 X.rq.kind, .slice X.rq.pa X.rq.pn X.rq.pc, .slice X.ba X.bn X.bc] 40)).heap.size (W.alloc (.cells #[.int .i64 X.id, .int .i64 X.rq.queue, .int .i64 X.rq.fr, .int .i64 X.rq.un, .int .i64 X.rq.kind, .slice X.rq.pa X.rq.pn X.rq.pc, .slice X.ba X.bn X.bc] 40)) (((W.alloc (.cells #[.int .i64 X.id, .int .i64 X.rq.queue, .int .i64 X.rq.fr, .int .i64 X.rq.un, .int .i64 X.rq.kind, .slice X.rq.pa X.rq.pn X.rq.pc, .slice X.ba X.bn X.bc] 40)).alloc (.cells #[.slice (some ⟨qb, qo, none⟩) n cap] 22)).alloc (.cells #[.int .i64 X.rq.queue] 3)) := ((Below.refl _ _).alloc (Nat.le_refl _) _).alloc (by simp) _
          have hsz : (((W.alloc (.cells #[.int .i64 X.id, .int .i64 X.rq.queue, .int .i64 X.rq.fr, .int .i64 X.rq.un, .int .i64 X.rq.kind, .slice X.rq.pa X.rq.pn X.rq.pc, .slice X.ba X.bn X.bc] 40)).alloc (.cells #[.slice (some ⟨qb, qo, none⟩) n cap] 22)).alloc (.cells #[.int .i64 X.rq.queue] 3)).heap.size = W.heap.size + 3 := by simp
          obtain ⟨W0, hW0⟩ : ∃ W0, ((W.alloc (.cells #[.int .i64 X.id, .int .i64 X.rq.queue, .int .i64 X.rq.fr, .int .i64 X.rq.un, .int .i64 X.rq.kind, .slice X.rq.pa X.rq.pn X.rq.pc, .slice X.ba X.bn X.bc] 40)).alloc (.cells #[.slice (some ⟨qb, qo, none⟩) n cap] 22)).alloc (.cells #[.int .i64 X.rq.queue] 3) = W0 := ⟨_, rfl⟩
          rw [hW0] at hsz hB0 bL' bJ hBX ⊢
          have KB := hid (bk_cells W X)
          have HBX := hid hBX
          clear hW0 bL hBX c0 c1 c2 c3 c4 c5 c6
          have bU0 : Boxed W0 (G + 1) 57 (.slice (some ⟨G, 0, none⟩) n n) := (hB0.block _ (by omega)).trans (HA.out.box bU.out (by omega))
          have tk0 : Tk W0 W0 G n (takenTo l b j) := by
            have h1 := HA.out.later hB0
            exact ⟨rfl, rfl, rfl, Nat.le_refl _, fun _ _ _ => rfl, h1.row⟩
          have cells0 : ∀ i, i < n → W0.cell? ⟨qb, qo + i * 3 + 1, none⟩ = some (.int .i64 (qu l i).parent) := fun i hi =>
            cell_later hB0 (cell_later HBW.out (HC.out i hi).2.1)
          have HCE := hid cells0
          have HTK0 := hid tk0
          have HB0 := hid hB0
          clear cells0 tk0
          refine wpIn_rangeFunc_ownG (F := Fence.wide) rfl (by omega) (gf := 64) (lb := #[.pointer (some ⟨W.heap.size + 1 + 1, 0, none⟩), .pointer (some ⟨W.heap.size + 1, 0, none⟩)]) rfl trivial (enters_of Try.func64 (by kernel_rfl) rfl)
            (upQ_stops Fence.wide _ trivial rfl (by omega) (W.heap.size + 1 + 1) (W.heap.size + 1) G qb qo n cap l X.rq.queue HR.out HN.out (by have := HN.out; omega) W0 bJ bL' (by omega) (by omega) HCE.out)
            KeepsL.trans (keepsL_b (by omega)) (Below.refl _ _) (fun _ => rfl)
            (fun pre W' => Tk W0 W' G n (addAll X (takenTo l b j) (pre.map (·.1))))
            (fun _ _ _ => False)
            (Tk.own (Nat.le_refl _) (by omega))
            (fun c s X Y row h _ _ => h)
            HTK0.out
            (fun x => { tmps := #[.slice (some ⟨qb, qo, none⟩) n cap, .slice (some ⟨bb, bo, none⟩) bn bc, undef, undef, .slice none 0 0, .int .i64 0, .int .i64 0, .pointer (some ⟨G + 1, 0, none⟩), u8, undef, .pointer (some ⟨W.heap.size, 0, none⟩), .int .i64 x.1, .slice (some ⟨qb, qo, none⟩) n cap, .slice (some ⟨bb, bo, none⟩) bn bc, .int .i64 0, .int .i64 0, .bool false, undef, .slice (some ⟨qb, qo, none⟩) n cap, .int .i64 n, .slice (some ⟨G, 0, none⟩) n n, .slice (some ⟨G, 0, none⟩) n n, .int .i64 n, .int .i64 n, .bool false, u25, u26, u27, u28, u29, u30, u31, .slice (some ⟨bb, bo, none⟩) bn bc, .int .i64 bn, .int .i64 j, .bool true, .pointer (some ⟨bb, bo + j * 7, none⟩), .agg #[.int .i64 X.id, .int .i64 X.rq.queue, .int .i64 X.rq.fr, .int .i64 X.rq.un, .int .i64 X.rq.kind, .slice X.rq.pa X.rq.pn X.rq.pc, .slice X.ba X.bn X.bc], .slice (some ⟨qb, qo, none⟩) n cap, .pointer (some ⟨W.heap.size, 1, none⟩), .pointer (some ⟨W.heap.size, 1, none⟩), .int .i64 X.rq.queue, .func (.func 64) #[] #[.pointer (some ⟨W.heap.size + 1 + 1, 0, none⟩), .pointer (some ⟨W.heap.size + 1, 0, none⟩)], .int .i64 x.1, undef, undef, undef, undef, undef, undef, undef, undef, undef, u53, undef], defers := [] }) ?assign ?body ?done ?stop
          case assign =>
            intro l x W K hK
            gi_wp2
            exact hK
          case body =>
            rintro lp pre x W' hTk hltp
            obtain ⟨x, hx0, hx1⟩ := x
            obtain ⟨P, rfl⟩ := Int.eq_ofNat_of_zero_le hx0
            have hPn : P < n := by omega
            have hPn' : (P : Int) < n := by omega
            obtain ⟨a1, m1, k1, tc, tf, hr1, hne1⟩ := hTk.at hPn
            have CU := hid (hTk.box bU0 (by omega)).cell
            have TC := hid tc
            have TF := hid tf
            have HR1 := hid hr1
            have hszW' : W0.heap.size ≤ W'.heap.size := hTk.size
            have BC : Hid (∀ Y, Below W'.heap.size W' Y → Y.cell? ⟨W.heap.size, 0, none⟩ = some (.int .i64 X.id) ∧ Y.cell? ⟨W.heap.size, 1, none⟩ = some (.int .i64 X.rq.queue) ∧ Y.cell? ⟨W.heap.size, 2, none⟩ = some (.int .i64 X.rq.fr) ∧ Y.cell? ⟨W.heap.size, 3, none⟩ = some (.int .i64 X.rq.un) ∧ Y.cell? ⟨W.heap.size, 4, none⟩ = some (.int .i64 X.rq.kind) ∧ Y.cell? ⟨W.heap.size, 5, none⟩ = some (.slice X.rq.pa X.rq.pn X.rq.pc) ∧ Y.cell? ⟨W.heap.size, 6, none⟩ = some (.slice X.ba X.bn X.bc)) := fun Y hY => by
              obtain ⟨c0, c1, c2, c3, c4, c5, c6⟩ := KB.out W0 HBX.out
              have e : W'.heap[W.heap.size]? = W0.heap[W.heap.size]? := hTk.block _ (by omega) (by omega)
              exact ⟨cell_later hY ((World.cell?_of_block (w := W0) (a := ⟨W.heap.size, 0, none⟩) e).trans c0), cell_later hY ((World.cell?_of_block (w := W0) (a := ⟨W.heap.size, 1, none⟩) e).trans c1), cell_later hY ((World.cell?_of_block (w := W0) (a := ⟨W.heap.size, 2, none⟩) e).trans c2), cell_later hY ((World.cell?_of_block (w := W0) (a := ⟨W.heap.size, 3, none⟩) e).trans c3), cell_later hY ((World.cell?_of_block (w := W0) (a := ⟨W.heap.size, 4, none⟩) e).trans c4), cell_later hY ((World.cell?_of_block (w := W0) (a := ⟨W.heap.size, 5, none⟩) e).trans c5), cell_later hY ((World.cell?_of_block (w := W0) (a := ⟨W.heap.size, 6, none⟩) e).trans c6)⟩
            have hwW' : Below w.heap.size w W' := (HBW.out.trans (HB0.out.mono (by have := HBW.out.size; omega))).trans (hTk.below (B := w.heap.size) (by omega) (by omega))
            have HTK2 := hid hTk
            obtain ⟨g, hg⟩ : ∃ g, addAll X (takenTo l b j) (pre.map (·.1)) P = g := ⟨_, rfl⟩
            rw [hg] at HR1
            have HGG := hid hg
            have hrqW : RqIn W' X.rq := RqIn.later HRQ.out hwW'
            have hbtW : RunsIn W' X.ba X.bn X.bc X.bs := HBT.out.later hwW'
            have KW := hid fun Y (hY : Below W'.heap.size W' Y) => with_any Y a1 m1 k1 g (HR1.out.later hY) X (RqIn.later hrqW hY) (hbtW.later hY) HM.out
            clear hTk tc tf hr1 hne1 hg hrqW hbtW
            gi_wp2_with fail
            refine wpIn_region_last ((Try.f24.body.bind fun c => regOps c 15).getD #[]) (by kernel_rfl) [isV (.slice (some ⟨G, 0, none⟩) n n), isV (.int .i64 P), isV (.slice (some ⟨G, 0, none⟩) n n), isV (.int .i64 P), isV (.pointer (some ⟨G, P, none⟩)), isV (.slice a1 m1 k1), isV (.agg #[.int .i64 X.id, .int .i64 X.rq.queue, .int .i64 X.rq.fr, .int .i64 X.rq.un, .int .i64 X.rq.kind, .slice X.rq.pa X.rq.pn X.rq.pc, .slice X.ba X.bn X.bc]), ⟨fun v Y => ∃ a2 m2 k2, v = .slice a2 m2 k2 ∧ RunsIn Y a2 m2 k2 (withTo g X X.bs.length) ∧ ∀ b off, a2 = some ⟨b, off, none⟩ → W'.heap.size ≤ b, fun _ Y Z ⟨a2, m2, k2, h1, h2, h3⟩ hb => ⟨a2, m2, k2, h1, h2.later hb, h3⟩⟩, isV (.pointer (some ⟨G, P, none⟩)), isV undef] 9 (by kernel_rfl) (by kernel_rfl) (by kernel_rfl) (by kernel_rfl) ?hstep ?hlast
            case hstep =>
              refine AllOps.cons 1 rfl ?_ ?_
              · intro _ T w' hb hl hd
                have h0 : T.getD 7 undef = .pointer (some ⟨G + 1, 0, none⟩) := hl 7 (by kernel_rfl)
                have cU := cell_later hb CU.out
                exact Or.inl ⟨.slice (some ⟨G, 0, none⟩) n n, w', by go_simp, rfl, Below.refl _ _⟩
              refine AllOps.cons 2 rfl ?_ ?_
              · intro _ T w' hb hl hd
                have h0 : T.getD 11 undef = .int .i64 P := hl 11 (by kernel_rfl)
                exact Or.inl ⟨.int .i64 P, w', by go_simp, rfl, Below.refl _ _⟩
              refine AllOps.cons 3 rfl ?_ ?_
              · intro _ T w' hb hl hd
                have h0 : T.getD 7 undef = .pointer (some ⟨G + 1, 0, none⟩) := hl 7 (by kernel_rfl)
                have cU := cell_later hb CU.out
                exact Or.inl ⟨.slice (some ⟨G, 0, none⟩) n n, w', by go_simp, rfl, Below.refl _ _⟩
              refine AllOps.cons 4 rfl ?_ ?_
              · intro _ T w' hb hl hd
                have h0 : T.getD 11 undef = .int .i64 P := hl 11 (by kernel_rfl)
                exact Or.inl ⟨.int .i64 P, w', by go_simp, rfl, Below.refl _ _⟩
              refine AllOps.cons 5 rfl ?_ ?_
              · intro _ T w' hb hl hd
                have h0 : T.getD 46 undef = .slice (some ⟨G, 0, none⟩) n n := hd 2 46 (by kernel_rfl)
                have h1 : T.getD 47 undef = .int .i64 P := hd 3 47 (by kernel_rfl)
                exact Or.inl ⟨.pointer (some ⟨G, P, none⟩), w', by go_simp, rfl, Below.refl _ _⟩
              refine AllOps.cons 6 rfl ?_ ?_
              · intro _ T w' hb hl hd
                have h0 : T.getD 48 undef = .pointer (some ⟨G, P, none⟩) := hd 4 48 (by kernel_rfl)
                have tc := cell_later hb TC.out
                exact Or.inl ⟨.slice a1 m1 k1, w', by go_simp, rfl, Below.refl _ _⟩
              refine AllOps.cons 7 rfl ?_ ?_
              · intro _ T w' hb hl hd
                have h0 : T.getD 10 undef = .pointer (some ⟨W.heap.size, 0, none⟩) := hl 10 (by kernel_rfl)
                obtain ⟨c0, c1, c2, c3, c4, c5, c6⟩ := BC.out w' hb
                exact Or.inl ⟨.agg #[.int .i64 X.id, .int .i64 X.rq.queue, .int .i64 X.rq.fr, .int .i64 X.rq.un, .int .i64 X.rq.kind, .slice X.rq.pa X.rq.pn X.rq.pc, .slice X.ba X.bn X.bc], w', by go_simp, rfl, Below.refl _ _⟩
              refine AllOps.cons 8 rfl ?_ ?_
              · intro _ T w' hb hl hd
                have h0 : T.getD 49 undef = .slice a1 m1 k1 := hd 5 49 (by kernel_rfl)
                have h1 : T.getD 50 undef = .agg #[.int .i64 X.id, .int .i64 X.rq.queue, .int .i64 X.rq.fr, .int .i64 X.rq.un, .int .i64 X.rq.kind, .slice X.rq.pa X.rq.pn X.rq.pc, .slice X.ba X.bn X.bc] := hd 6 50 (by kernel_rfl)
                refine Or.inr ⟨59, #[.slice a1 m1 k1, .agg #[.int .i64 X.id, .int .i64 X.rq.queue, .int .i64 X.rq.fr, .int .i64 X.rq.un, .int .i64 X.rq.kind, .slice X.rq.pa X.rq.pn X.rq.pc, .slice X.ba X.bn X.bc]], by go_simp, ?_⟩
                refine (KW.out w' hb).mono ?_
                rintro e w'' ⟨a2, m2, k2, rfl, hr, hbb, hnw⟩
                exact ⟨_, rfl, ⟨a2, m2, k2, rfl, hr, fun b off e => by have := hnw b off e; have := hb.size; omega⟩, hbb⟩
              refine AllOps.cons 9 rfl ?_ ?_
              · intro _ T w' hb hl hd
                have h0 : T.getD 44 undef = .slice (some ⟨G, 0, none⟩) n n := hd 0 44 (by kernel_rfl)
                have h1 : T.getD 45 undef = .int .i64 P := hd 1 45 (by kernel_rfl)
                exact Or.inl ⟨.pointer (some ⟨G, P, none⟩), w', by go_simp, rfl, Below.refl _ _⟩
              exact ⟨fun h => absurd rfl h, trivial⟩
            case hlast =>
              intro o ho T w' hb hs hl hd
              have hoo : ((Try.f24.body.bind fun c => regOps c 15).getD #[])[9]? = some { dst := none, op := Op.store 29 (Operand.tmp 52) (Operand.tmp 51), type := 0, pos := "load.go:26", after := #[{ on := 8, ground := Ground.data }, { on := 7, ground := Ground.data }, { on := 7, ground := Ground.chain }, { on := 0, ground := Ground.phase }, { on := 1, ground := Ground.phase }, { on := 2, ground := Ground.phase }, { on := 3, ground := Ground.phase }, { on := 4, ground := Ground.phase }, { on := 5, ground := Ground.phase }, { on := 6, ground := Ground.phase }, { on := 7, ground := Ground.phase }], guard := none } := by kernel_rfl
              rw [hoo] at ho
              cases ho
              clear hoo
              have h0 : T.getD 52 undef = .pointer (some ⟨G, P, none⟩) := hd 8 52 (by decide) (by kernel_rfl)
              obtain ⟨a2, m2, k2, h1, hr2, hn2⟩ := hd 7 51 (by decide) (by kernel_rfl)
              have tc := cell_later hb TC.out
              have tf := (World.frozen?_of_block (w := W') (a := ⟨G, P, none⟩) (hb.block G (by omega))).trans TF.out
              refine ⟨w'.setCell ⟨G, P, none⟩ (.slice a2 m2 k2), by go_simp, ?_⟩
              refine ⟨?_, ?_, ?_⟩
              · exact (KeepsOthers.trans (⟨hb.size, fun k o hk _ => (hb.block k (Array.getElem?_eq_some_iff.1 hk).1).trans hk⟩ : KeepsOthers W' w') (KeepsOthers.setCell _ _ _)).from _
              · exact ⟨(show Below G W' w' from hb.mono (by omega)).setCell (Nat.le_refl _) _, fun v hv => (Below.heap_setCell _ _ _ _ (by simp only; omega)).trans ((hb.block _ hv.lt).trans hv)⟩
              · show Tk W0 _ G n (addAll X (takenTo l b j) (List.map (fun x : QN n => x.1) (pre ++ [_])))
                rw [List.map_append, List.map_cons, List.map_nil, addAll_more]
                have := (HTK2.out.later hb).hit P hr2 (fun b off e => by have := hn2 b off e; omega)
                exact this.congr fun q hq => by
                  show (if q = P then withTo g X X.bs.length else _) = _
                  rw [Int.toNat_natCast, HGG.out]
          case done =>
            rintro D ys W' hD hys hTk hK
            rw [hys] at hTk
            have HTK3 : Hid (Tk W0 W' G n (takenTo l b (j + 1))) := by show Tk W0 W' G n (takenTo l b (j + 1)); rw [HTK.out]; exact hTk
            clear hTk hys
            gi_wp2
            rw [← HDS.out]
            exact ⟨of_next hlt HA.out HB0.out HTK3.out hsW hsW1 HMS.out HND.out hD hK, by simp [OMu, intOf]; omega⟩
          case stop =>
            rintro D c pre W' hD hpre h hK
            cases h
        · obtain rfl : bn = j := by omega
          have hbx := (HA.out.box bU.out (by omega)).cell
          gi_wp2
          show LeavesInM _ _ _ _ _ _ dm _ _
          rw [← HDS.out]
          refine leaves_marksC (G + 2) ds W hsW HND.out (fun D hD => ⟨(HMS.out D hD).1, (HMS.out D hD).2.2⟩) (fun W' hb hcl => ?_)
          have htk' := HA.out.marks hb hcl (by omega)
          refine ⟨_, results_tmp2 rfl _ _ _, G, rfl, hsz1, fun q hq => ?_, ?_⟩
          · obtain ⟨a', m', k', h1, h2, h3, h4⟩ := htk'.at hq
            exact ⟨a', m', k', h1, by rw [← HBN.out]; exact h3⟩
          · exact HBW.out.trans (hb.mono (by omega))
end Go.Proofs.Ytcgchicdmgllaad
