/- Several texts in one: CutA, Same, CutB, CutU. -/
import Derived.Test.YtecibbokbonmcaeGreatKAll6
import Derived.BigQuiet
/- runs.Minus and load.Of once more (what they give is new); the library's ContainsFunc on bites once more; cut.takes, cut.lefts, cut.first. -/
namespace Go.Proofs.YtecibbokbonmcaeGreat
open Go.RowKit Go.Shelf
attribute [local go_sem] Oper.semAt_some

set_option maxRecDepth 100000 in
set_option maxHeartbeats 4000000 in
theorem Of_row (w : World) (a : Option Addr) (n cap : Nat) (l : QL) (hl : QsIn w a n cap l) (ba : Option Addr) (bn bc : Nat) (b : BL) (hb : BksIn w ba bn bc b) (hc : chkL l b = 0) :
    Calls Tryz.prog 24 #[.slice a n cap, .slice ba bn bc] w fun e w' => ∃ G, e = .returned (.tuple #[.slice (some ⟨G, 0, none⟩) n n, .int .i64 0]) ∧ w.heap.size ≤ G ∧ (∃ W0 : World, Tk W0 w' G n (takenTo l b b.length)) ∧ Below w.heap.size w w' := by
  have HN := hid hl.len
  have hcb := hl.capb
  have hle := hl.le
  obtain ⟨ht, h12, hbk⟩ := no_error hc
  have HR := hid (right_of ht)
  have hp : 0 < n := by have := HR.out.pos; have := HN.out; omega
  have h5 : n ≤ 5 := by have := HR.out.five; have := HN.out; omega
  obtain ⟨qb, qo, rfl, hcell⟩ := hl.cells hp
  have hblt : qb < w.heap.size := block_lt_of_cell (hcell 0 hp).1
  have HC := hid hcell
  have HL := hid hl
  have HBK := hid hb
  have HBN := hid hb.len
  have hble := hb.le
  have hbcb := hb.capb
  have HOK := hid fun i (hi : i < b.length) => no_error_at ht (hbk i hi)
  have hK := checkL_any w (some ⟨qb, qo, none⟩) n cap l hl ba bn bc b hb
  rw [hc] at hK
  have HK := hid hK
  clear hcell hl hb hc ht h12 hbk hK
  have hmk := run_make_row' (P := Tryz.prog) 59 26 (.slice none 0 0) 24 Tryz.underlying59 Tryz.info47 rfl .i64 .i64 n (by omega) (by omega)
  refine (callsIn_wide (n := 4)).1 ?_
  refine callsIn_of_wp_marks Tryz.func24 rfl trivial ?_ rfl
  simp only [Tryz.ntmps24, List.size_toArray, List.length_cons, List.length_nil, Nat.reduceAdd, Nat.reduceSub, Array.replicate_succ, Array.replicate_zero, List.push_toArray, List.append_toArray, List.nil_append, List.cons_append]
  gi_wp2_with fail
  refine ⟨trivial, (callsIn_wide.2 HK.out).mono ?_⟩
  rintro e w1 ⟨rfl, B1⟩
  have HB1 := hid B1
  have hsz1 : w.heap.size ≤ w1.heap.size := B1.size
  clear B1
  gi_wp2_with fail
  clear hmk
  obtain ⟨W1, hW1⟩ : ∃ W1, (w1.alloc (.cells (madeCells #[.slice none 0 0] n) 26)).alloc (.cells #[.slice (some ⟨w1.heap.size, 0, none⟩) n n] 59) = W1 := ⟨_, rfl⟩
  have T1 : Hid (W1.rowIs w1.heap.size 26 n (fun _ => .slice none 0 0)) := by rw [← hW1]; exact (World.rowIs_made w1 _ n 26).alloc _
  have bU : Hid (Boxed W1 (w1.heap.size + 1) 59 (.slice (some ⟨w1.heap.size, 0, none⟩) n n)) := by
    rw [← hW1]
    have := Boxed.new (w1.alloc (.cells (madeCells #[.slice none 0 0] n) 26)) 59 (.slice (some ⟨w1.heap.size, 0, none⟩) n n)
    rwa [World.size_alloc] at this
  have BW1 : Hid (Below w1.heap.size w1 W1) := by rw [← hW1]; exact ((Below.refl _ w1).alloc (Nat.le_refl _) _).alloc (by simp) _
  have hsW1 : W1.heap.size = w1.heap.size + 2 := by rw [← hW1]; simp
  rw [hW1]
  clear hW1
  have TK1 : Hid (Tk W1 W1 w1.heap.size n (fun _ => [])) := ⟨rfl, rfl, rfl, Nat.le_refl _, fun _ _ _ => rfl, _, T1.out, fun q hq => ⟨none, 0, 0, rfl, runsIn_nil _, fun b off e => by cases e⟩⟩
  obtain ⟨G, hG⟩ : ∃ G, w1.heap.size = G := ⟨_, rfl⟩
  rw [hG] at T1 bU BW1 hsW1 TK1 hsz1
  rw [hG]
  have HG := hid hG
  clear hG
  have cU := bU.out.cell
  gi_wp2_with fail
  gi_loopw [8, 23] (fun _ p wr => ∃ i : Nat, p = .int .i64 i ∧ i ≤ n ∧ Tk W1 wr G n (fun q => if q < i then [(0, 0)] else [])) (fun _ p _ => n - (intOf p).toNat)
  case atStart => exact ⟨0, rfl, by omega, TK1.out.congr fun q hq => by rw [if_neg (by omega)]⟩
  case round =>
    clear cU
    obtain ⟨i, rfl, hi, htk⟩ := hrel
    have HT := hid htk
    have cU := (htk.box bU.out (by omega)).cell
    have hszr : W1.heap.size ≤ wr.heap.size := htk.size
    have hGr : G < wr.heap.size := by omega
    have hG1r : G + 1 < wr.heap.size := by omega
    clear htk
    by_cases hlt : i < n
    · have hlt' : (i : Int) < n := by omega
      obtain ⟨a', m', c', tc, tf, _, _⟩ := HT.out.at hlt
      gi_wp2
      go_roundw
      case rel =>
        have hb2 : Below wr.heap.size wr (wr.alloc (.cells #[.int .i64 0, .int .i64 0] 71)) := (Below.refl _ _).alloc (Nat.le_refl _) _
        have h1 := (HT.out.later hb2).hit i (a := some ⟨wr.heap.size, 0, none⟩) (m := 1) (c := 1) (g := [(0, 0)]) (runs_lit wr [(0, 0)] _ 1 rfl rfl (by simp)) (fun b off e => by cases e; omega)
        rw [World.setCell_alloc_past (hn := hGr)] at h1
        exact ⟨i + 1, by go_num, by omega, h1.congr fun q hq => by
          by_cases e : q = i
          · rw [if_pos e, if_pos (by omega)]
          · rw [if_neg e]
            by_cases e2 : q < i
            · rw [if_pos e2, if_pos (by omega)]
            · rw [if_neg e2, if_neg (by omega)]⟩
      case measure => simp [intOf]; omega
    · obtain rfl : n = i := by omega
      have HT0 : Hid (Tk W1 wr G n (takenTo l b 0)) := HT.out.congr fun q hq => by rw [if_pos hq]; rfl
      gi_wp2_with fail
      refine wpIn_loop (OInv qb qo n cap G ba bn bc l b u8 u25 u26 u27 u28 u29 u30 u31 W1) (OMu bn) ?start ?round
      case start => exact ⟨0, [], undef, undef, undef, undef, undef, undef, undef, undef, undef, undef, rfl, by omega, HT0.out, fun D hD => by simp at hD, by simp⟩
      case round =>
        clear cU HT HT0 hszr hGr hG1r hlt hi
        rintro a W ⟨j, ds, u10, u35, u36, u37, u38, u39, u40, u41, u42, u53, rfl, hj, hA, hms, hnd⟩
        have HA := hid hA
        have HMS := hid hms
        have HND := hid hnd
        have hsW : G + 2 ≤ W.heap.size := by have := hA.size; omega
        have hbw : Below w.heap.size w W := (HB1.out.trans (BW1.out.mono (by have := HG.out; omega))).trans (hA.below (B := w.heap.size) (by omega) (by omega))
        have HBW := hid hbw
        clear hA hms hnd hbw
        generalize hds : (ds.map fun D => ({ target := .collected D, args := #[] } : Deferred)) = dm
        have HDS := hid hds
        clear hds
        by_cases hlt : j < bn
        · have hlt' : (j : Int) < bn := by omega
          obtain ⟨bb, bo, rfl, hcs⟩ := HBK.out.cells (by omega)
          obtain ⟨c0, c1, c2, c3, c4, c5, c6⟩ := hcs j hlt
          have hbbl : bb < w.heap.size := block_lt_of_cell c0
          have hbblW : bb < W.heap.size := by have := HBW.out.size; omega
          replace c0 := cell_later HBW.out c0
          replace c1 := cell_later HBW.out c1
          replace c2 := cell_later HBW.out c2
          replace c3 := cell_later HBW.out c3
          replace c4 := cell_later HBW.out c4
          replace c5 := cell_later HBW.out c5
          replace c6 := cell_later HBW.out c6
          obtain ⟨hm, hq0, hq1⟩ := HOK.out j (by have := HBN.out; omega)
          have hrq := HBK.out.rqs j hlt
          have hbt := HBK.out.bites j hlt
          have HTK : Hid (takenTo l b (j + 1) = addAll (bk b j) (takenTo l b j) (lineOf l (bk b j).rq.queue)) := rfl
          obtain ⟨X, hX⟩ : ∃ X, bk b j = X := ⟨_, rfl⟩
          rw [hX] at c0 c1 c2 c3 c4 c5 c6 hm hq0 hq1 hrq hbt HTK
          have HM := hid hm
          have HRQ := hid hrq
          have HBT := hid hbt
          clear hX hm hrq hbt hcs
          gi_wp2_with fail
          refine ⟨trivial, (up_in Fence.wide _ trivial rfl _ _ _ ⟨_, _, _, rfl⟩).mono ?_⟩
          rintro e w2 ⟨rfl, rfl⟩
          gi_wp2_with fail
          have bJ := Boxed.new ((W.alloc (.cells #[.int .i64 X.id, .int .i64 X.rq.queue, .int .i64 X.rq.fr, .int .i64 X.rq.un, .int .i64 X.rq.kind, .slice X.rq.pa X.rq.pn X.rq.pc, .slice X.ba X.bn X.bc] 43)).alloc (.cells #[.slice (some ⟨qb, qo, none⟩) n cap] 22)) 3 (.int .i64 X.rq.queue)
          have bL := Boxed.new (W.alloc (.cells #[.int .i64 X.id, .int .i64 X.rq.queue, .int .i64 X.rq.fr, .int .i64 X.rq.un, .int .i64 X.rq.kind, .slice X.rq.pa X.rq.pn X.rq.pc, .slice X.ba X.bn X.bc] 43)) 22 (.slice (some ⟨qb, qo, none⟩) n cap)
          rw [World.size_alloc] at bL
          rw [World.size_alloc, World.size_alloc] at bJ
          have bL' := bL.alloc (.cells #[.int .i64 X.rq.queue] 3)
          have hB0 : Below W.heap.size W (((W.alloc (.cells #[.int .i64 X.id, .int .i64 X.rq.queue, .int .i64 X.rq.fr, .int .i64 X.rq.un, .int .i64 X.rq.kind, .slice X.rq.pa X.rq.pn X.rq.pc, .slice X.ba X.bn X.bc] 43)).alloc (.cells #[.slice (some ⟨qb, qo, none⟩) n cap] 22)).alloc (.cells #[.int .i64 X.rq.queue] 3)) := (((Below.refl _ W).alloc (Nat.le_refl _) _).alloc (by simp) _).alloc (by simp; omega) _
          have hBX : Below (W.alloc (.cells #[.int .i64 X.id, .int .i64 X.rq.queue, .int .i64 X.rq.fr, .int .i64 X.rq.un, .int .i64 X.rq.kind, .slice X.rq.pa X.rq.pn X.rq.pc, .slice X.ba X.bn X.bc] 43)).heap.size (W.alloc (.cells #[.int .i64 X.id, .int .i64 X.rq.queue, .int .i64 X.rq.fr, .int .i64 X.rq.un, .int .i64 X.rq.kind, .slice X.rq.pa X.rq.pn X.rq.pc, .slice X.ba X.bn X.bc] 43)) (((W.alloc (.cells #[.int .i64 X.id, .int .i64 X.rq.queue, .int .i64 X.rq.fr, .int .i64 X.rq.un, .int .i64 X.rq.kind, .slice X.rq.pa X.rq.pn X.rq.pc, .slice X.ba X.bn X.bc] 43)).alloc (.cells #[.slice (some ⟨qb, qo, none⟩) n cap] 22)).alloc (.cells #[.int .i64 X.rq.queue] 3)) := ((Below.refl _ _).alloc (Nat.le_refl _) _).alloc (by simp) _
          have hsz : (((W.alloc (.cells #[.int .i64 X.id, .int .i64 X.rq.queue, .int .i64 X.rq.fr, .int .i64 X.rq.un, .int .i64 X.rq.kind, .slice X.rq.pa X.rq.pn X.rq.pc, .slice X.ba X.bn X.bc] 43)).alloc (.cells #[.slice (some ⟨qb, qo, none⟩) n cap] 22)).alloc (.cells #[.int .i64 X.rq.queue] 3)).heap.size = W.heap.size + 3 := by simp
          obtain ⟨W0, hW0⟩ : ∃ W0, ((W.alloc (.cells #[.int .i64 X.id, .int .i64 X.rq.queue, .int .i64 X.rq.fr, .int .i64 X.rq.un, .int .i64 X.rq.kind, .slice X.rq.pa X.rq.pn X.rq.pc, .slice X.ba X.bn X.bc] 43)).alloc (.cells #[.slice (some ⟨qb, qo, none⟩) n cap] 22)).alloc (.cells #[.int .i64 X.rq.queue] 3) = W0 := ⟨_, rfl⟩
          rw [hW0] at hsz hB0 bL' bJ hBX ⊢
          have KB := hid (bk_cells W X)
          have HBX := hid hBX
          clear hW0 bL hBX c0 c1 c2 c3 c4 c5 c6
          have bU0 : Boxed W0 (G + 1) 59 (.slice (some ⟨G, 0, none⟩) n n) := (hB0.block _ (by omega)).trans (HA.out.box bU.out (by omega))
          have tk0 : Tk W0 W0 G n (takenTo l b j) := by
            have h1 := HA.out.later hB0
            exact ⟨rfl, rfl, rfl, Nat.le_refl _, fun _ _ _ => rfl, h1.row⟩
          have cells0 : ∀ i, i < n → W0.cell? ⟨qb, qo + i * 3 + 1, none⟩ = some (.int .i64 (qu l i).parent) := fun i hi =>
            cell_later hB0 (cell_later HBW.out (HC.out i hi).2.1)
          have HCE := hid cells0
          have HTK0 := hid tk0
          have HB0 := hid hB0
          clear cells0 tk0
          refine wpIn_rangeFunc_ownG (F := Fence.wide) rfl (by omega) (gf := 110) (lb := #[.pointer (some ⟨W.heap.size + 1 + 1, 0, none⟩), .pointer (some ⟨W.heap.size + 1, 0, none⟩)]) rfl trivial (enters_of Tryz.func110 (by kernel_rfl) rfl)
            (upQ_stops Fence.wide _ trivial rfl (by omega) (W.heap.size + 1 + 1) (W.heap.size + 1) G qb qo n cap l X.rq.queue HR.out HN.out (by have := HN.out; omega) W0 bJ bL' (by omega) (by omega) HCE.out)
            KeepsL.trans (keepsL_b (by omega)) (Below.refl _ _) (fun _ => rfl)
            (fun pre W' => Tk W0 W' G n (addAll X (takenTo l b j) (pre.map (·.1))))
            (fun _ _ _ => False)
            (Tk.own (Nat.le_refl _) (by omega))
            (fun c s X Y row h _ _ => h)
            HTK0.out
            (fun x => { tmps := #[.slice (some ⟨qb, qo, none⟩) n cap, .slice (some ⟨bb, bo, none⟩) bn bc, undef, undef, .slice none 0 0, .int .i64 0, .int .i64 0, .pointer (some ⟨G + 1, 0, none⟩), u8, undef, .pointer (some ⟨W.heap.size, 0, none⟩), .int .i64 x.1, .slice (some ⟨qb, qo, none⟩) n cap, .slice (some ⟨bb, bo, none⟩) bn bc, .int .i64 0, .int .i64 0, .bool false, undef, .slice (some ⟨qb, qo, none⟩) n cap, .int .i64 n, .slice (some ⟨G, 0, none⟩) n n, .slice (some ⟨G, 0, none⟩) n n, .int .i64 n, .int .i64 n, .bool false, u25, u26, u27, u28, u29, u30, u31, .slice (some ⟨bb, bo, none⟩) bn bc, .int .i64 bn, .int .i64 j, .bool true, .pointer (some ⟨bb, bo + j * 7, none⟩), .agg #[.int .i64 X.id, .int .i64 X.rq.queue, .int .i64 X.rq.fr, .int .i64 X.rq.un, .int .i64 X.rq.kind, .slice X.rq.pa X.rq.pn X.rq.pc, .slice X.ba X.bn X.bc], .slice (some ⟨qb, qo, none⟩) n cap, .pointer (some ⟨W.heap.size, 1, none⟩), .pointer (some ⟨W.heap.size, 1, none⟩), .int .i64 X.rq.queue, .func (.func 110) #[] #[.pointer (some ⟨W.heap.size + 1 + 1, 0, none⟩), .pointer (some ⟨W.heap.size + 1, 0, none⟩)], .int .i64 x.1, undef, undef, undef, undef, undef, undef, undef, undef, undef, u53, undef], defers := [] }) ?assign ?body ?done ?stop
          case assign =>
            intro l x W K hK
            gi_wp2
            exact hK
          case body =>
            rintro lp pre x W' hTk hltp
            obtain ⟨x, hx0, hx1⟩ := x
            obtain ⟨P, rfl⟩ := Int.eq_ofNat_of_zero_le hx0
            have hPn : P < n := by omega
            have hPn' : (P : Int) < n := by omega
            obtain ⟨a1, m1, k1, tc, tf, hr1, hne1⟩ := hTk.at hPn
            have CU := hid (hTk.box bU0 (by omega)).cell
            have TC := hid tc
            have TF := hid tf
            have HR1 := hid hr1
            have hszW' : W0.heap.size ≤ W'.heap.size := hTk.size
            have BC : Hid (∀ Y, Below W'.heap.size W' Y → Y.cell? ⟨W.heap.size, 0, none⟩ = some (.int .i64 X.id) ∧ Y.cell? ⟨W.heap.size, 1, none⟩ = some (.int .i64 X.rq.queue) ∧ Y.cell? ⟨W.heap.size, 2, none⟩ = some (.int .i64 X.rq.fr) ∧ Y.cell? ⟨W.heap.size, 3, none⟩ = some (.int .i64 X.rq.un) ∧ Y.cell? ⟨W.heap.size, 4, none⟩ = some (.int .i64 X.rq.kind) ∧ Y.cell? ⟨W.heap.size, 5, none⟩ = some (.slice X.rq.pa X.rq.pn X.rq.pc) ∧ Y.cell? ⟨W.heap.size, 6, none⟩ = some (.slice X.ba X.bn X.bc)) := fun Y hY => by
              obtain ⟨c0, c1, c2, c3, c4, c5, c6⟩ := KB.out W0 HBX.out
              have e : W'.heap[W.heap.size]? = W0.heap[W.heap.size]? := hTk.block _ (by omega) (by omega)
              exact ⟨cell_later hY ((World.cell?_of_block (w := W0) (a := ⟨W.heap.size, 0, none⟩) e).trans c0), cell_later hY ((World.cell?_of_block (w := W0) (a := ⟨W.heap.size, 1, none⟩) e).trans c1), cell_later hY ((World.cell?_of_block (w := W0) (a := ⟨W.heap.size, 2, none⟩) e).trans c2), cell_later hY ((World.cell?_of_block (w := W0) (a := ⟨W.heap.size, 3, none⟩) e).trans c3), cell_later hY ((World.cell?_of_block (w := W0) (a := ⟨W.heap.size, 4, none⟩) e).trans c4), cell_later hY ((World.cell?_of_block (w := W0) (a := ⟨W.heap.size, 5, none⟩) e).trans c5), cell_later hY ((World.cell?_of_block (w := W0) (a := ⟨W.heap.size, 6, none⟩) e).trans c6)⟩
            have hwW' : Below w.heap.size w W' := (HBW.out.trans (HB0.out.mono (by have := HBW.out.size; omega))).trans (hTk.below (B := w.heap.size) (by omega) (by omega))
            have HTK2 := hid hTk
            obtain ⟨g, hg⟩ : ∃ g, addAll X (takenTo l b j) (pre.map (·.1)) P = g := ⟨_, rfl⟩
            rw [hg] at HR1
            have HGG := hid hg
            have hrqW : RqIn W' X.rq := RqIn.later HRQ.out hwW'
            have hbtW : RunsIn W' X.ba X.bn X.bc X.bs := HBT.out.later hwW'
            have KW := hid fun Y (hY : Below W'.heap.size W' Y) => with_any Y a1 m1 k1 g (HR1.out.later hY) X (RqIn.later hrqW hY) (hbtW.later hY) HM.out
            clear hTk tc tf hr1 hne1 hg hrqW hbtW
            gi_wp2_with fail
            refine wpIn_region_last ((Tryz.f24.body.bind fun c => regOps c 15).getD #[]) (by kernel_rfl) [isV (.slice (some ⟨G, 0, none⟩) n n), isV (.int .i64 P), isV (.slice (some ⟨G, 0, none⟩) n n), isV (.int .i64 P), isV (.pointer (some ⟨G, P, none⟩)), isV (.slice a1 m1 k1), isV (.agg #[.int .i64 X.id, .int .i64 X.rq.queue, .int .i64 X.rq.fr, .int .i64 X.rq.un, .int .i64 X.rq.kind, .slice X.rq.pa X.rq.pn X.rq.pc, .slice X.ba X.bn X.bc]), ⟨fun v Y => ∃ a2 m2 k2, v = .slice a2 m2 k2 ∧ RunsIn Y a2 m2 k2 (withTo g X X.bs.length) ∧ ∀ b off, a2 = some ⟨b, off, none⟩ → W'.heap.size ≤ b, fun _ Y Z ⟨a2, m2, k2, h1, h2, h3⟩ hb => ⟨a2, m2, k2, h1, h2.later hb, h3⟩⟩, isV (.pointer (some ⟨G, P, none⟩)), isV undef] 9 (by kernel_rfl) (by kernel_rfl) (by kernel_rfl) (by kernel_rfl) ?hstep ?hlast
            case hstep =>
              refine AllOps.cons 1 rfl ?_ ?_
              · intro _ T w' hb hl hd
                have h0 : T.getD 7 undef = .pointer (some ⟨G + 1, 0, none⟩) := hl 7 (by kernel_rfl)
                have cU := cell_later hb CU.out
                exact Or.inl ⟨.slice (some ⟨G, 0, none⟩) n n, w', by go_simp, rfl, Below.refl _ _⟩
              refine AllOps.cons 2 rfl ?_ ?_
              · intro _ T w' hb hl hd
                have h0 : T.getD 11 undef = .int .i64 P := hl 11 (by kernel_rfl)
                exact Or.inl ⟨.int .i64 P, w', by go_simp, rfl, Below.refl _ _⟩
              refine AllOps.cons 3 rfl ?_ ?_
              · intro _ T w' hb hl hd
                have h0 : T.getD 7 undef = .pointer (some ⟨G + 1, 0, none⟩) := hl 7 (by kernel_rfl)
                have cU := cell_later hb CU.out
                exact Or.inl ⟨.slice (some ⟨G, 0, none⟩) n n, w', by go_simp, rfl, Below.refl _ _⟩
              refine AllOps.cons 4 rfl ?_ ?_
              · intro _ T w' hb hl hd
                have h0 : T.getD 11 undef = .int .i64 P := hl 11 (by kernel_rfl)
                exact Or.inl ⟨.int .i64 P, w', by go_simp, rfl, Below.refl _ _⟩
              refine AllOps.cons 5 rfl ?_ ?_
              · intro _ T w' hb hl hd
                have h0 : T.getD 46 undef = .slice (some ⟨G, 0, none⟩) n n := hd 2 46 (by kernel_rfl)
                have h1 : T.getD 47 undef = .int .i64 P := hd 3 47 (by kernel_rfl)
                exact Or.inl ⟨.pointer (some ⟨G, P, none⟩), w', by go_simp, rfl, Below.refl _ _⟩
              refine AllOps.cons 6 rfl ?_ ?_
              · intro _ T w' hb hl hd
                have h0 : T.getD 48 undef = .pointer (some ⟨G, P, none⟩) := hd 4 48 (by kernel_rfl)
                have tc := cell_later hb TC.out
                exact Or.inl ⟨.slice a1 m1 k1, w', by go_simp, rfl, Below.refl _ _⟩
              refine AllOps.cons 7 rfl ?_ ?_
              · intro _ T w' hb hl hd
                have h0 : T.getD 10 undef = .pointer (some ⟨W.heap.size, 0, none⟩) := hl 10 (by kernel_rfl)
                obtain ⟨c0, c1, c2, c3, c4, c5, c6⟩ := BC.out w' hb
                exact Or.inl ⟨.agg #[.int .i64 X.id, .int .i64 X.rq.queue, .int .i64 X.rq.fr, .int .i64 X.rq.un, .int .i64 X.rq.kind, .slice X.rq.pa X.rq.pn X.rq.pc, .slice X.ba X.bn X.bc], w', by go_simp, rfl, Below.refl _ _⟩
              refine AllOps.cons 8 rfl ?_ ?_
              · intro _ T w' hb hl hd
                have h0 : T.getD 49 undef = .slice a1 m1 k1 := hd 5 49 (by kernel_rfl)
                have h1 : T.getD 50 undef = .agg #[.int .i64 X.id, .int .i64 X.rq.queue, .int .i64 X.rq.fr, .int .i64 X.rq.un, .int .i64 X.rq.kind, .slice X.rq.pa X.rq.pn X.rq.pc, .slice X.ba X.bn X.bc] := hd 6 50 (by kernel_rfl)
                refine Or.inr ⟨66, #[.slice a1 m1 k1, .agg #[.int .i64 X.id, .int .i64 X.rq.queue, .int .i64 X.rq.fr, .int .i64 X.rq.un, .int .i64 X.rq.kind, .slice X.rq.pa X.rq.pn X.rq.pc, .slice X.ba X.bn X.bc]], by go_simp, ?_⟩
                refine (KW.out w' hb).mono ?_
                rintro e w'' ⟨a2, m2, k2, rfl, hr, hbb, hnw⟩
                exact ⟨_, rfl, ⟨a2, m2, k2, rfl, hr, fun b off e => by have := hnw b off e; have := hb.size; omega⟩, hbb⟩
              refine AllOps.cons 9 rfl ?_ ?_
              · intro _ T w' hb hl hd
                have h0 : T.getD 44 undef = .slice (some ⟨G, 0, none⟩) n n := hd 0 44 (by kernel_rfl)
                have h1 : T.getD 45 undef = .int .i64 P := hd 1 45 (by kernel_rfl)
                exact Or.inl ⟨.pointer (some ⟨G, P, none⟩), w', by go_simp, rfl, Below.refl _ _⟩
              exact ⟨fun h => absurd rfl h, trivial⟩
            case hlast =>
              intro o ho T w' hb hs hl hd
              have hoo : ((Tryz.f24.body.bind fun c => regOps c 15).getD #[])[9]? = some { dst := none, op := Op.store 26 (Operand.tmp 52) (Operand.tmp 51), type := 0, pos := "load.go:26", after := #[{ on := 8, ground := Ground.data }, { on := 7, ground := Ground.data }, { on := 7, ground := Ground.chain }, { on := 0, ground := Ground.phase }, { on := 1, ground := Ground.phase }, { on := 2, ground := Ground.phase }, { on := 3, ground := Ground.phase }, { on := 4, ground := Ground.phase }, { on := 5, ground := Ground.phase }, { on := 6, ground := Ground.phase }, { on := 7, ground := Ground.phase }], guard := none } := by kernel_rfl
              rw [hoo] at ho
              cases ho
              clear hoo
              have h0 : T.getD 52 undef = .pointer (some ⟨G, P, none⟩) := hd 8 52 (by decide) (by kernel_rfl)
              obtain ⟨a2, m2, k2, h1, hr2, hn2⟩ := hd 7 51 (by decide) (by kernel_rfl)
              have tc := cell_later hb TC.out
              have tf := (World.frozen?_of_block (w := W') (a := ⟨G, P, none⟩) (hb.block G (by omega))).trans TF.out
              refine ⟨w'.setCell ⟨G, P, none⟩ (.slice a2 m2 k2), by go_simp, ?_⟩
              refine ⟨?_, ?_, ?_⟩
              · exact (KeepsOthers.trans (⟨hb.size, fun k o hk _ => (hb.block k (Array.getElem?_eq_some_iff.1 hk).1).trans hk⟩ : KeepsOthers W' w') (KeepsOthers.setCell _ _ _)).from _
              · exact ⟨(show Below G W' w' from hb.mono (by omega)).setCell (Nat.le_refl _) _, fun v hv => (Below.heap_setCell _ _ _ _ (by simp only; omega)).trans ((hb.block _ hv.lt).trans hv)⟩
              · show Tk W0 _ G n (addAll X (takenTo l b j) (List.map (fun x : QN n => x.1) (pre ++ [_])))
                rw [List.map_append, List.map_cons, List.map_nil, addAll_more]
                have := (HTK2.out.later hb).hit P hr2 (fun b off e => by have := hn2 b off e; omega)
                exact this.congr fun q hq => by
                  show (if q = P then withTo g X X.bs.length else _) = _
                  rw [Int.toNat_natCast, HGG.out]
          case done =>
            rintro D ys W' hD hys hTk hK
            rw [hys] at hTk
            have HTK3 : Hid (Tk W0 W' G n (takenTo l b (j + 1))) := by show Tk W0 W' G n (takenTo l b (j + 1)); rw [HTK.out]; exact hTk
            clear hTk hys
            gi_wp2
            rw [← HDS.out]
            exact ⟨of_next hlt HA.out HB0.out HTK3.out hsW hsW1 HMS.out HND.out hD hK, by simp [OMu, intOf]; omega⟩
          case stop =>
            rintro D c pre W' hD hpre h hK
            cases h
        · obtain rfl : bn = j := by omega
          have hbx := (HA.out.box bU.out (by omega)).cell
          gi_wp2
          show LeavesInM _ _ _ _ _ _ dm _ _
          rw [← HDS.out]
          refine leaves_marksC (G + 2) ds W hsW HND.out (fun D hD => ⟨(HMS.out D hD).1, (HMS.out D hD).2.2⟩) (fun W' hb hcl => ?_)
          have htk' := HA.out.marks hb hcl (by omega)
          refine ⟨_, results_tmp2 rfl _ _ _, G, rfl, hsz1, ⟨_, by rw [← HBN.out]; exact htk'⟩, ?_⟩
          · exact HBW.out.trans (hb.mono (by omega))
end Go.Proofs.YtecibbokbonmcaeGreat

namespace Go.Proofs.YtecibbokbonmcaeGreat
open Go.RowKit Go.Shelf
theorem below_drewN (w : World) (d : Nat) : Below w.heap.size w (w.drewN d) := ⟨rfl, rfl, rfl, Nat.le_refl _, fun _ _ => rfl⟩

theorem Minus_new (w : World) (a1 a2 : Option Addr) (n1 n2 cap1 cap2 : Nat) (l1 l2 : RunL) (h1 : RunsIn w a1 n1 cap1 l1) (h2 : RunsIn w a2 n2 cap2 l2) :
   Calls Tryz.prog 105 #[.slice a1 n1 cap1, .slice a2 n2 cap2] w fun e w' => GivesN w w' e (joinR (fun x y => x - y) l1 l2) := by
  cases hf : (fine l1 && fine l2) with
  | false =>
    have hr : joinR (fun x y => x - y) l1 l2 = ([], 1) := by simp only [joinR, hf]; rfl
    rw [hr]
    have hk : (if (fine l1 && fine l2) = true then (0 : Int) else 1) = 1 := by rw [hf]; rfl
    go_enter Tryz.func105, Tryz.ntmps105
    go_wp2_with fail
    refine (checkBoth_any _ _ _ _ _ _ _ l1 l2 h1 h2).mono ?_
    rintro e w1 ⟨rfl, hb⟩
    rw [hk]
    go_wp2
    go_ret2
    exact givesN_err hb
  | true =>
    have hr : joinR (fun x y => x - y) l1 l2 = tell (jv (fun x y => x - y) l1 l2) := by simp only [joinR, hf]; rfl
    rw [hr]
    have hk : (if (fine l1 && fine l2) = true then (0 : Int) else 1) = 0 := by rw [hf]; rfl
    rw [Bool.and_eq_true] at hf
    have F1 := hid (fine_iff.1 hf.1)
    have F2 := hid (fine_iff.1 hf.2)
    obtain ⟨r, hr2⟩ : ∃ r, r = tell (jv (fun x y => x - y) l1 l2) := ⟨_, rfl⟩
    rw [← hr2]
    have HR := hid hr2
    clear hr2 hr hf
    go_enter Tryz.func105, Tryz.ntmps105
    go_wp2_with fail
    refine (checkBoth_any _ _ _ _ _ _ _ l1 l2 h1 h2).mono ?_
    rintro e w1 ⟨rfl, hb⟩
    rw [hk]
    go_wp2_with fail
    have hl := lay_givesN 136 _ joins48 w1 a1 a2 n1 cap1 n2 cap2 l1 l2 (h1.later hb) (h2.later hb) F1.out.rises F2.out.rises (fun i hi => F1.out.bdd (by rw [← h1.len]; exact hi)) (fun i hi => F2.out.bdd (by rw [← h2.len]; exact hi))
    rw [← HR.out] at hl
    refine hl.mono ?_
    clear hl
    rintro e w2 ⟨a, n, cap, rfl, hr, hb2, hnw⟩
    go_wp2
    go_ret2
    exact ⟨a, n, cap, rfl, hr, below_from hb hb2, fun b off e => Nat.le_trans hb.size (hnw b off e)⟩


set_option maxHeartbeats 400000 in
theorem IndexBs_in (fk : Nat) (caps : Array Value) (p : Nat → Bool) (hk : ∀ (args : Array Value) (w : World), (callFunc fk args).run Tryz.prog w = .ok (.enter fk args) w) (w : World) (b off n cap : Nat) (l : RunL) (h : RunsIn w (some ⟨b, off, none⟩) n cap l) (hp : 0 < n)
    (hm : ∀ w', Below w.heap.size w w' → ∀ i, i < n → Calls Tryz.prog fk (#[.agg #[.int .i64 (rAt l i), .int .i64 (rN l i)]] ++ caps) w' fun e w'' => e = .returned (.bool (!p i)) ∧ Below w'.heap.size w' w'') :
    Calls Tryz.prog 152 #[.slice (some ⟨b, off, none⟩) n cap, .func (.func fk) #[] caps] w fun e w' => ∃ r : Int, e = .returned (.int .i64 r) ∧ (decide (0 ≤ r)) = (!allN p n) ∧ Below w.heap.size w w' := by
  have HN := hid h.len
  have hle := h.le
  have hbd := h.capb
  obtain ⟨b', off', e, hc⟩ := h.cells hp
  cases e
  have HC := hid hc
  have HM := hid hm
  clear hc hm
  go_enter Tryz.func152, Tryz.ntmps152
  go_wp2
  go_loopw [5, 8] (fun _ st wr => ∃ k : Nat, st = .int .i64 k ∧ k ≤ n ∧ allN p k = true ∧ Below w.heap.size w wr) (fun _ st _ => n - (intOf st).toNat)
  case atStart => exact ⟨0, rfl, by omega, rfl, Below.refl _ _⟩
  case round =>
    obtain ⟨j, rfl, hj, hall, hbel⟩ := hrel
    have HA := hid hall
    have HB := hid hbel
    clear hall hbel
    by_cases hlt : j < n
    · have hlt' : (j : Int) < n := by omega
      have c0 := cell_later HB.out (HC.out j hlt).1
      have c1 := cell_later HB.out (HC.out j hlt).2
      cases g : p j with
      | false =>
        go_wp2_with fail
        refine (HM.out wr HB.out j hlt).mono ?_
        rintro e w1 ⟨rfl, hb1⟩
        rw [g]
        go_wp2
        go_ret
        exact ⟨_, rfl, by rw [allN_false (p := p) g n hlt]; simp, below_from HB.out hb1⟩
      | true =>
        go_wp2_with fail
        refine (HM.out wr HB.out j hlt).mono ?_
        rintro e w1 ⟨rfl, hb1⟩
        have HB1 := hid hb1
        clear hb1
        rw [g]
        go_wp2
        go_roundw
        case rel => exact ⟨j + 1, by go_num, by omega, by rw [allN, HA.out, g]; rfl, below_from HB.out HB1.out⟩
        case measure => simp [intOf]; omega
    · obtain rfl : j = n := by omega
      go_wp2
      go_ret
      exact ⟨_, rfl, by rw [HA.out]; rfl, HB.out⟩

theorem ContainsBs_in (fk : Nat) (caps : Array Value) (p : Nat → Bool) (hk : ∀ (args : Array Value) (w : World), (callFunc fk args).run Tryz.prog w = .ok (.enter fk args) w) (w : World) (a : Option Addr) (n cap : Nat) (l : RunL) (h : RunsIn w a n cap l) (hp : 0 < n)
    (hm : ∀ w', Below w.heap.size w w' → ∀ i, i < n → Calls Tryz.prog fk (#[.agg #[.int .i64 (rAt l i), .int .i64 (rN l i)]] ++ caps) w' fun e w'' => e = .returned (.bool (!p i)) ∧ Below w'.heap.size w' w'') :
    Calls Tryz.prog 127 #[.slice a n cap, .func (.func fk) #[] caps] w fun e w' => e = .returned (.bool (!allN p n)) ∧ Below w.heap.size w w' := by
  obtain ⟨b, off, rfl, _⟩ := h.cells hp
  have HM := hid hm
  clear hm
  go_enter Tryz.func127, Tryz.ntmps127
  go_wp2_with fail
  refine (IndexBs_in fk caps p hk w b off n cap l h hp HM.out).mono ?_
  rintro e w1 ⟨r, rfl, hr, hb⟩
  have HR := hid hr
  clear hr
  go_wp2
  go_ret
  exact ⟨ret_bool HR.out, hb⟩


/-- does the i-th bite take something at t? -/
def takesI (X : Bk) (t : Int) (i : Nat) : Bool := decide (rN X.bs i ≤ t) && decide (t < rN X.bs i + lenOf X.rq X.bs i)
/-- does the book? -/
def takesB (X : Bk) (t : Int) : Bool := !allN (fun i => !takesI X t i) X.bs.length
set_option maxRecDepth 100000 in
set_option maxHeartbeats 1000000 in
theorem takes1_any (w : World) (X : Bk) (T B k : Nat) (t y : Int) (hT : w.cell? ⟨T, 0, none⟩ = some (.int .i64 t)) (hB : BkBox w B X) (hr : RqIn w X.rq) (hk : k < X.rq.ps.length) (y0 : 0 ≤ y) (y1 : y ≤ 48) (z0 : 0 ≤ rAt X.rq.ps k) (z1 : rAt X.rq.ps k ≤ 48) :
    Calls Tryz.prog 149 #[.agg #[.int .i64 (k : Int), .int .i64 y], .pointer (some ⟨T, 0, none⟩), .pointer (some ⟨B, 0, none⟩)] w fun e w' => e = .returned (.bool (decide (y ≤ t) && decide (t < y + rAt X.rq.ps k))) ∧ Below w.heap.size w w' := by
  obtain ⟨S, hS⟩ : ∃ S, w.heap.size = S := ⟨_, rfl⟩
  obtain ⟨W1, hW1⟩ : ∃ W1, W1 = w.alloc (.cells #[.int .i64 (k : Int), .int .i64 y] 49) := ⟨_, rfl⟩
  have hb0 : Below w.heap.size w W1 := by rw [hW1]; exact (Below.refl _ _).alloc (Nat.le_refl _) _
  have hr' : RunsIn w X.rq.pa X.rq.pn X.rq.pc X.rq.ps := hr
  have hpl := hr'.len
  have hple := hr'.le
  have hpcb := hr'.capb
  have hkn : k < X.rq.pn := by omega
  have hkn' : (k : Int) < X.rq.pn := by omega
  obtain ⟨pb, po, hpa, hcs⟩ := hr'.cells (by omega)
  have q0 := cell_later hb0 (hcs k hkn).1
  have t0 := cell_later hb0 hT
  obtain ⟨u0, u1, u2, u3, u4, u5, u6⟩ := (hB.later hb0).cells
  rw [hpa] at u5
  have HB0 := hid hb0
  have HW1 := hid hW1
  rw [hW1] at q0 t0 u0 u1 u2 u3 u4 u5 u6
  clear hb0 hW1 hr hr' hcs hB hT hpl hpa
  obtain ⟨z, hz⟩ : ∃ z, rAt X.rq.ps k = z := ⟨_, rfl⟩
  rw [hz] at q0 z0 z1 ⊢
  clear hz
  by_cases g : y ≤ t
  · have hd : decide (y ≤ t) = true := by simp [g]
    go_enter Tryz.func149, Tryz.ntmps149
    go_wp2
    go_quiet (fail)
    go_wp2
    go_ret
    rw [← HW1.out]
    exact ⟨by rw [hd]; rfl, below_from HB0.out (below_drewN W1 _)⟩
  · have hd : decide (y ≤ t) = false := by simp [g]
    go_enter Tryz.func149, Tryz.ntmps149
    go_wp2
    go_quiet (fail)
    go_wp2
    go_ret
    rw [← HW1.out]
    exact ⟨by rw [hd]; rfl, below_from HB0.out (below_drewN W1 _)⟩
set_option maxRecDepth 100000 in
set_option maxHeartbeats 1000000 in
theorem takes_any (w : World) (X : Bk) (hr : RqIn w X.rq) (hb : RunsIn w X.ba X.bn X.bc X.bs) (hm : meets X.rq X.bs = true) (t : Int) :
    Calls Tryz.prog 125 #[.agg #[.int .i64 X.id, .int .i64 X.rq.queue, .int .i64 X.rq.fr, .int .i64 X.rq.un, .int .i64 X.rq.kind, .slice X.rq.pa X.rq.pn X.rq.pc, .slice X.ba X.bn X.bc], .int .i64 t] w fun e w' => e = .returned (.bool (takesB X t)) ∧ Below w.heap.size w w' := by
  obtain ⟨S, hS⟩ : ∃ S, w.heap.size = S := ⟨_, rfl⟩
  obtain ⟨W1, hW1⟩ : ∃ W1, W1 = (w.alloc (.cells #[.int .i64 X.id, .int .i64 X.rq.queue, .int .i64 X.rq.fr, .int .i64 X.rq.un, .int .i64 X.rq.kind, .slice X.rq.pa X.rq.pn X.rq.pc, .slice X.ba X.bn X.bc] 43)).alloc (.cells #[.int .i64 t] 3) := ⟨_, rfl⟩
  have hb0 : Below w.heap.size w W1 := by rw [hW1]; exact ((Below.refl _ _).alloc (Nat.le_refl _) _).alloc (by simp) _
  have hB : BkBox W1 S X := by rw [hW1, ← hS]; exact (Below.heap_alloc _ _ _ (by simp)).trans (heap_alloc_new w _)
  have hT : W1.cell? ⟨S + 1, 0, none⟩ = some (.int .i64 t) := by rw [hW1, ← hS]; go_simp
  have hbn := hb.len
  obtain ⟨m1, m2, m3⟩ := meets_split.1 hm
  have m4 := chkR_zero.1 m1
  have hps := m4.2.1
  simp [wth] at hps
  have hn0 : 0 < X.bn := by
    have : 0 < wantedN X.rq := by unfold wantedN; split <;> omega
    omega
  have hbd := meets_bounds hm
  have K := ContainsBs_in 149 #[.pointer (some ⟨S + 1, 0, none⟩), .pointer (some ⟨S, 0, none⟩)] (fun i => !takesI X t i) (fun args w => by go_simp) W1 X.ba X.bn X.bc X.bs (hb.later hb0) hn0 (fun w' hw' i hi => by
    have hbo := m3 i (by omega)
    have hp1 := (biteOk_at hbo).1
    have hp2 := inTime_at (biteOk_at hbo).2.1
    obtain ⟨k, hk⟩ : ∃ k : Nat, rAt X.bs i = k := ⟨(rAt X.bs i).toNat, by have := isPiece_at hp1; omega⟩
    have hk2 : k < X.rq.ps.length := by have := isPiece_at hp1; omega
    have hl := lenOf_at m1 hp1
    have hz : lenOf X.rq X.bs i = rAt X.rq.ps k := by unfold lenOf; rw [hk, Int.toNat_natCast]
    have hsp := m4.2.2
    simp only [rangeOk, Bool.and_eq_true] at hsp
    have hsp1 := hsp.1
    simp [spn] at hsp1
    have K1 := takes1_any w' X (S + 1) S k t (rN X.bs i) (cell_later hw' hT) (hB.later hw') (RqIn.later (RqIn.later hr hb0) hw') hk2 (by omega) (by omega) (by omega) (by omega)
    rw [hk]
    refine K1.mono ?_
    rintro e w'' ⟨rfl, hbb⟩
    refine ⟨?_, hbb⟩
    rw [Bool.not_not]
    unfold takesI
    rw [hz])
  have e1 : takesB X t = !allN (fun i => !takesI X t i) X.bn := by unfold takesB; rw [hbn]
  rw [e1]
  have HK := hid K
  have HB0 := hid hb0
  have HW1 := hid hW1
  obtain ⟨u0, u1, u2, u3, u4, u5, u6⟩ := hB.cells
  rw [hW1] at u0 u1 u2 u3 u4 u5 u6
  obtain ⟨A, hA⟩ : ∃ A, (!allN (fun i => !takesI X t i) X.bn) = A := ⟨_, rfl⟩
  rw [hA] at HK ⊢
  clear K e1 hA hB hT hb0 hW1 hr hb hm hbn m1 m2 m3 m4 hps hbd hn0
  go_enter Tryz.func125, Tryz.ntmps125
  go_wp2_with fail
  rw [← HW1.out]
  refine HK.out.mono ?_
  rintro e w1 ⟨rfl, hb⟩
  have HB1 := hid (below_from HB0.out hb)
  clear hb
  go_wp2
  go_ret
  exact ⟨rfl, by first | exact HB1.out | (rw [← hS]; exact HB1.out)⟩

/-- what is left of a queue's own Cap -/
def leftT (l : QL) (b : BL) (q : Nat) : RunL := (joinR (fun x y => x - y) (qu l q).runs (takenTo l b b.length q)).1
def mixT (l : QL) (b : BL) (j q : Nat) : RunL := if q < j then leftT l b q else takenTo l b b.length q
set_option maxRecDepth 100000 in
set_option maxHeartbeats 2000000 in
theorem lefts_any (w : World) (c n : Int) (ta : Option Addr) (tn tc : Nat) (l : QL) (ba : Option Addr) (bn bc : Nat) (b : BL) (h : StIn w ta tn tc l ba bn bc b) (hc : chkL l b = 0) :
    Calls Tryz.prog 90 #[.agg #[.int .i64 c, .int .i64 n, .slice ta tn tc, .slice ba bn bc]] w fun e w' => ∃ G, e = .returned (.slice (some ⟨G, 0, none⟩) tn tn) ∧ w.heap.size ≤ G ∧ TakenIn w' G tn (leftT l b) ∧ Below w.heap.size w w' := by
  obtain ⟨S, hS⟩ : ∃ S, w.heap.size = S := ⟨_, rfl⟩
  obtain ⟨W1, hW1⟩ : ∃ W1, W1 = w.alloc (.cells #[.int .i64 c, .int .i64 n, .slice ta tn tc, .slice ba bn bc] 25) := ⟨_, rfl⟩
  have hb0 : Below w.heap.size w W1 := by rw [hW1]; exact (Below.refl _ _).alloc (Nat.le_refl _) _
  have x1 : StBox W1 S (.int .i64 c) (.int .i64 n) (.slice ta tn tc) (.slice ba bn bc) := by rw [hW1, ← hS]; exact StBox.new w _ _ _ _
  have HR := right_of (no_error hc).1
  have hp : 0 < tn := by have := HR.pos; have := h.1.len; omega
  have h5 : tn ≤ 5 := by have := HR.five; have := h.1.len; omega
  obtain ⟨qb, qo, rfl, hqc⟩ := (h.1.later hb0).cells hp
  have KO := hid (Of_row W1 _ tn tc l (h.1.later hb0) ba bn bc b (h.2.later hb0) hc)
  have HQ := hid (h.1.later hb0)
  have HQC := hid hqc
  have HX1 := hid x1
  have HB0 := hid hb0
  have HW1 := hid hW1
  have htle := h.1.le
  have htcb := h.1.capb
  obtain ⟨c0, c1, c2, c3⟩ := x1.cells
  rw [hW1] at c0 c1 c2 c3
  clear hb0 hW1 h x1 hqc HR
  go_enter Tryz.func90, Tryz.ntmps90
  go_wp2_with fail
  rw [← HW1.out]
  refine KO.out.mono ?_
  rintro e w2 ⟨G, rfl, hG, ⟨W0, hTk⟩, hb⟩
  have HB2 := hid hb
  have hT2 : Tk w2 w2 G tn (mixT l b 0) := Tk.congr ⟨rfl, rfl, rfl, Nat.le_refl _, fun _ _ _ => rfl, hTk.row⟩ (fun q _ => by unfold mixT; rw [if_neg (Nat.not_lt_zero q)])
  have HT2 := hid hT2
  have HG := hid hG
  clear hTk hb hT2 hG c0 c1 c2 c3
  go_wp2_with fail
  go_loopw [17] (fun p wr => ∃ j : Nat, p = .int .i64 j ∧ j ≤ tn ∧ Tk w2 wr G tn (mixT l b j) ∧ Below W1.heap.size W1 wr) (fun p _ => tn - (intOf p).toNat)
  case atStart => exact ⟨0, rfl, by omega, HT2.out, HB2.out⟩
  case round =>
    obtain ⟨j, rfl, hj, hTk, hbel⟩ := hrel
    have HTK := hid hTk
    have HBE := hid hbel
    clear hTk hbel
    by_cases hlt : j < tn
    · have hlt' : (j : Int) < tn := by omega
      obtain ⟨ga, gm, gc, gcell, gf, gr, gne⟩ := HTK.out.at hlt
      have e0 : mixT l b j j = takenTo l b b.length j := by unfold mixT; rw [if_neg (Nat.lt_irrefl j)]
      rw [e0] at gr
      obtain ⟨c0, c1, c2, c3⟩ := (HX1.out.later HBE.out).cells
      have s2 := cell_later HBE.out (HQC.out j hlt).2.2
      have KM := hid (Minus_new wr _ _ _ _ _ _ _ _ ((HQ.out.later HBE.out).caps j hlt) gr)
      have hjl : ((j : Nat) : Int).toNat = j := rfl
      clear e0 gne gf gr
      go_wp2_with fail
      refine KM.out.mono ?_
      rintro e w3 ⟨a3, n3, k3, rfl, hr3, hb3, hnew⟩
      obtain ⟨ga', gm', gc', gcell', gf', _, _⟩ := (HTK.out.later hb3).at hlt
      have HT3 : Hid (Tk w2 (w3.setCell ⟨G, j, none⟩ (.slice a3 n3 k3)) G tn (mixT l b (j + 1))) := by
        have := (HTK.out.later hb3).hit j hr3 (fun b off e => by
          have h1 := hnew b off e
          have h2 := block_lt_of_cell gcell
          intro e2
          rw [e2] at h1
          exact absurd h2 (Nat.not_lt.2 h1))
        refine hid (this.congr fun q hq => ?_)
        unfold mixT
        by_cases e : q = j
        · subst e
          rw [if_pos rfl, if_pos (Nat.lt_succ_self q)]
          rfl
        · rw [if_neg e]
          by_cases e2 : q < j
          · rw [if_pos e2, if_pos (by omega)]
          · rw [if_neg e2, if_neg (by omega)]
      have HB4 : Hid (Below W1.heap.size W1 (w3.setCell ⟨G, j, none⟩ (.slice a3 n3 k3))) := hid ((below_from HBE.out hb3).setCell (p := ⟨G, j, none⟩) HG.out _)
      clear hb3 hnew hr3 gcell c0 c1 c2 c3 s2
      go_wp2
      go_roundw
      case rel => exact ⟨j + 1, by go_num, by omega, HT3.out, HB4.out⟩
      case measure => simp [intOf]; omega
    · obtain rfl : j = tn := by omega
      go_wp2
      go_ret
      refine ⟨G, rfl, ?_, fun q hq => ?_, ?_⟩
      · have h1 := HG.out
        have h2 := HB0.out.size
        omega
      · obtain ⟨ga, gm, gc, gcell, _, gr, _⟩ := HTK.out.at hq
        refine ⟨ga, gm, gc, gcell, ?_⟩
        have e0 : mixT l b j q = leftT l b q := by unfold mixT; rw [if_pos hq]
        rw [e0] at gr
        exact gr
      · first | exact below_from HB0.out HBE.out | (rw [← hS]; exact below_from HB0.out HBE.out)
end Go.Proofs.YtecibbokbonmcaeGreat

/- The reference's SameTrees, SameReqs, SameBooks, SameStates: of two that say the same they answer yes. -/
namespace Go.Proofs.YtecibbokbonmcaeGreat
open Go.RowKit

theorem same_qu {l m : QL} (h : bareQ l = bareQ m) (i : Nat) : (qu l i).name = (qu m i).name ∧ (qu l i).parent = (qu m i).parent ∧ (qu l i).runs = (qu m i).runs := by
  have e : (qu l i).bare = (qu m i).bare := by rw [← qu_bare, h, qu_bare]
  exact ⟨show (qu l i).bare.name = (qu m i).bare.name by rw [e], show (qu l i).bare.parent = (qu m i).bare.parent by rw [e], show (qu l i).bare.runs = (qu m i).bare.runs by rw [e]⟩
theorem same_rq {r s : Rq} (h : r.bare = s.bare) : r.queue = s.queue ∧ r.fr = s.fr ∧ r.un = s.un ∧ r.kind = s.kind ∧ r.ps = s.ps :=
  ⟨show r.bare.queue = s.bare.queue by rw [h], show r.bare.fr = s.bare.fr by rw [h], show r.bare.un = s.bare.un by rw [h], show r.bare.kind = s.bare.kind by rw [h], show r.bare.ps = s.bare.ps by rw [h]⟩
theorem same_bk {b d : BL} (h : bareB b = bareB d) (i : Nat) : (bk b i).id = (bk d i).id ∧ (bk b i).rq.bare = (bk d i).rq.bare ∧ (bk b i).bs = (bk d i).bs := by
  have e : (bk b i).bare = (bk d i).bare := by rw [← bk_bare, h, bk_bare]
  exact ⟨show (bk b i).bare.id = (bk d i).bare.id by rw [e], show (bk b i).bare.rq = (bk d i).bare.rq by rw [e], show (bk b i).bare.bs = (bk d i).bare.bs by rw [e]⟩

set_option maxRecDepth 100000 in
set_option maxHeartbeats 1000000 in
theorem SameTrees_same (w : World) (a1 a2 : Option Addr) (n cap1 cap2 : Nat) (l m0 : QL) (h1 : QsIn w a1 n cap1 l) (h2 : QsIn w a2 n cap2 m0) (he : bareQ l = bareQ m0) :
    Calls Tryz.prog 51 #[.slice a1 n cap1, .slice a2 n cap2] w fun e w' => e = .returned (.bool true) ∧ Below w.heap.size w w' := by
  have hle := h1.le
  have hcb := h1.capb
  have hle2 := h2.le
  have hcb2 := h2.capb
  have hne : ((n : Int) != n) = false := by simp
  by_cases hp : 0 < n
  · obtain ⟨b1, o1, rfl, c1⟩ := h1.cells hp
    obtain ⟨b2, o2, rfl, c2⟩ := h2.cells hp
    have KC : Hid (∀ (Y : World), Below w.heap.size w Y → ∀ j, j < n → ∃ s p x1 m k1 x2 k2 r, (Y.cell? ⟨b1, o1 + j * 3, none⟩ = some (.string s) ∧ Y.cell? ⟨b1, o1 + j * 3 + 1, none⟩ = some (.int .i64 p) ∧ Y.cell? ⟨b1, o1 + j * 3 + 2, none⟩ = some (.slice x1 m k1)) ∧ (Y.cell? ⟨b2, o2 + j * 3, none⟩ = some (.string s) ∧ Y.cell? ⟨b2, o2 + j * 3 + 1, none⟩ = some (.int .i64 p) ∧ Y.cell? ⟨b2, o2 + j * 3 + 2, none⟩ = some (.slice x2 m k2)) ∧ RunsIn Y x1 m k1 r ∧ RunsIn Y x2 m k2 r) := by
      intro Y hY j hj
      obtain ⟨u0, u1, u2⟩ := c1 j hj
      obtain ⟨v0, v1, v2⟩ := c2 j hj
      obtain ⟨q0, q1, q2⟩ := same_qu he j
      have r1 := (h1.caps j hj).later hY
      have r2 := (h2.caps j hj).later hY
      have em : (qu l j).cn = (qu m0 j).cn := r1.len.trans ((congrArg List.length q2).trans r2.len.symm)
      rw [q0] at u0
      rw [q1] at u1
      rw [em] at u2 r1
      rw [q2] at r1
      exact ⟨_, _, _, _, _, _, _, _, ⟨cell_later hY u0, cell_later hY u1, cell_later hY u2⟩, ⟨cell_later hY v0, cell_later hY v1, cell_later hY v2⟩, r1, r2⟩
    clear h1 h2 he c1 c2
    go_enter Tryz.func51, Tryz.ntmps51
    go_wp2_with fail
    go_loopw [5] (fun p wr => ∃ j : Nat, p = .int .i64 j ∧ j ≤ n ∧ Below w.heap.size w wr) (fun p _ => n - (intOf p).toNat)
    case atStart => exact ⟨0, rfl, by omega, Below.refl _ _⟩
    case round =>
      obtain ⟨j, rfl, hj, hbel⟩ := hrel
      have HBL := hid hbel
      clear hbel
      by_cases hlt : j < n
      · have hlt' : (j : Int) < n := by omega
        obtain ⟨s, p, x1, m, k1, x2, k2, r, ⟨u0, u1, u2⟩, ⟨v0, v1, v2⟩, r1, r2⟩ := KC.out wr HBL.out j hlt
        have C10 := hid u0
        have C11 := hid u1
        have C12 := hid u2
        have C20 := hid v0
        have C21 := hid v1
        have C22 := hid v2
        have KP := hid fun Y (hY : Below wr.heap.size wr Y) => SameRuns_same Y x1 x2 m k1 k2 r (r1.later hY) (r2.later hY)
        clear u0 u1 u2 v0 v1 v2 r1 r2
        go_wp2_with fail
        go_cut [54] (fun p wx => p = .bool false ∧ Below wr.heap.size wr wx)
        case first =>
          refine wp_region_des ((Tryz.f51.body.bind fun c => regOps c 6).getD #[]) (by kernel_rfl) [isV (.slice (some ⟨b1, o1, none⟩) n cap1), isV (.int .i64 j), isV (.pointer (some ⟨b1, o1 + j * 3, none⟩)), isV (.pointer (some ⟨b1, o1 + j * 3, none⟩)), isV (.string s), isV (.slice (some ⟨b2, o2, none⟩) n cap2), isV (.int .i64 j), isV (.pointer (some ⟨b2, o2 + j * 3, none⟩)), isV (.pointer (some ⟨b2, o2 + j * 3, none⟩)), isV (.string s), isV (.bool false), isV (.bool false), isV (.slice (some ⟨b1, o1, none⟩) n cap1), isV (.int .i64 j), isV (.pointer (some ⟨b1, o1 + j * 3, none⟩)), isV (.pointer (some ⟨b1, o1 + j * 3 + 1, none⟩)), isV (.int .i64 p), isV (.slice (some ⟨b2, o2, none⟩) n cap2), isV (.int .i64 j), isV (.pointer (some ⟨b2, o2 + j * 3, none⟩)), isV (.pointer (some ⟨b2, o2 + j * 3 + 1, none⟩)), isV (.int .i64 p), isV (.bool false), isV (.bool false), isV (.bool false), isV (.slice (some ⟨b1, o1, none⟩) n cap1), isV (.int .i64 j), isV (.pointer (some ⟨b1, o1 + j * 3, none⟩)), isV (.pointer (some ⟨b1, o1 + j * 3 + 2, none⟩)), isV (.slice x1 m k1), isV (.slice (some ⟨b2, o2, none⟩) n cap2), isV (.int .i64 j), isV (.pointer (some ⟨b2, o2 + j * 3, none⟩)), isV (.pointer (some ⟨b2, o2 + j * 3 + 2, none⟩)), isV (.slice x2 m k2), isV (.bool true), isV (.bool false), isV (.bool false)] [(11, false), (24, false)] (by kernel_rfl) (by kernel_rfl) (by kernel_rfl) ?hg ?hstep ?hfin
          case hg =>
            intro g hg v w h
            simp only [List.mem_cons, List.not_mem_nil, or_false] at hg
            rcases hg with rfl | rfl <;> exact h
          case hstep =>
            refine AllOps.cons 1 rfl ?_ ?_
            · intro T w' hb hl hd
              have h0 : T.getD 0 undef = .slice (some ⟨b1, o1, none⟩) n cap1 := hl 0 (by kernel_rfl)
              exact Or.inl ⟨.slice (some ⟨b1, o1, none⟩) n cap1, w', by go_simp, rfl, Below.refl _ _⟩
            refine AllOps.cons 2 rfl ?_ ?_
            · intro T w' hb hl hd
              have h0 : T.getD 5 undef = .int .i64 j := hl 5 (by kernel_rfl)
              exact Or.inl ⟨.int .i64 j, w', by go_simp, rfl, Below.refl _ _⟩
            refine AllOps.cons 3 rfl ?_ ?_
            · intro T w' hb hl hd
              have h0 : T.getD 17 undef = .slice (some ⟨b1, o1, none⟩) n cap1 := hd 0 17 (by kernel_rfl)
              have h1 : T.getD 18 undef = .int .i64 j := hd 1 18 (by kernel_rfl)
              exact Or.inl ⟨.pointer (some ⟨b1, o1 + j * 3, none⟩), w', by go_simp, rfl, Below.refl _ _⟩
            refine AllOps.cons 4 rfl ?_ ?_
            · intro T w' hb hl hd
              have h0 : T.getD 19 undef = .pointer (some ⟨b1, o1 + j * 3, none⟩) := hd 2 19 (by kernel_rfl)
              exact Or.inl ⟨.pointer (some ⟨b1, o1 + j * 3, none⟩), w', by go_simp, rfl, Below.refl _ _⟩
            refine AllOps.cons 5 rfl ?_ ?_
            · intro T w' hb hl hd
              have h0 : T.getD 20 undef = .pointer (some ⟨b1, o1 + j * 3, none⟩) := hd 3 20 (by kernel_rfl)
              have cc := cell_later hb C10.out
              exact Or.inl ⟨.string s, w', by go_simp, rfl, Below.refl _ _⟩
            refine AllOps.cons 6 rfl ?_ ?_
            · intro T w' hb hl hd
              have h0 : T.getD 1 undef = .slice (some ⟨b2, o2, none⟩) n cap2 := hl 1 (by kernel_rfl)
              exact Or.inl ⟨.slice (some ⟨b2, o2, none⟩) n cap2, w', by go_simp, rfl, Below.refl _ _⟩
            refine AllOps.cons 7 rfl ?_ ?_
            · intro T w' hb hl hd
              have h0 : T.getD 5 undef = .int .i64 j := hl 5 (by kernel_rfl)
              exact Or.inl ⟨.int .i64 j, w', by go_simp, rfl, Below.refl _ _⟩
            refine AllOps.cons 8 rfl ?_ ?_
            · intro T w' hb hl hd
              have h0 : T.getD 22 undef = .slice (some ⟨b2, o2, none⟩) n cap2 := hd 5 22 (by kernel_rfl)
              have h1 : T.getD 23 undef = .int .i64 j := hd 6 23 (by kernel_rfl)
              exact Or.inl ⟨.pointer (some ⟨b2, o2 + j * 3, none⟩), w', by go_simp, rfl, Below.refl _ _⟩
            refine AllOps.cons 9 rfl ?_ ?_
            · intro T w' hb hl hd
              have h0 : T.getD 24 undef = .pointer (some ⟨b2, o2 + j * 3, none⟩) := hd 7 24 (by kernel_rfl)
              exact Or.inl ⟨.pointer (some ⟨b2, o2 + j * 3, none⟩), w', by go_simp, rfl, Below.refl _ _⟩
            refine AllOps.cons 10 rfl ?_ ?_
            · intro T w' hb hl hd
              have h0 : T.getD 25 undef = .pointer (some ⟨b2, o2 + j * 3, none⟩) := hd 8 25 (by kernel_rfl)
              have cc := cell_later hb C20.out
              exact Or.inl ⟨.string s, w', by go_simp, rfl, Below.refl _ _⟩
            refine AllOps.cons 11 rfl ?_ ?_
            · intro T w' hb hl hd
              have h0 : T.getD 21 undef = .string s := hd 4 21 (by kernel_rfl)
              have h1 : T.getD 26 undef = .string s := hd 9 26 (by kernel_rfl)
              exact Or.inl ⟨.bool false, w', by go_simp, rfl, Below.refl _ _⟩
            refine AllOps.cons 12 rfl ?_ ?_
            · intro T w' hb hl hd
              have h0 : T.getD 27 undef = .bool false := hd 10 27 (by kernel_rfl)
              exact Or.inl ⟨.bool false, w', by go_simp, rfl, Below.refl _ _⟩
            refine AllOps.cons 13 rfl ?_ ?_
            · intro T w' hb hl hd
              have h0 : T.getD 0 undef = .slice (some ⟨b1, o1, none⟩) n cap1 := hl 0 (by kernel_rfl)
              exact Or.inl ⟨.slice (some ⟨b1, o1, none⟩) n cap1, w', by go_simp, rfl, Below.refl _ _⟩
            refine AllOps.cons 14 rfl ?_ ?_
            · intro T w' hb hl hd
              have h0 : T.getD 5 undef = .int .i64 j := hl 5 (by kernel_rfl)
              exact Or.inl ⟨.int .i64 j, w', by go_simp, rfl, Below.refl _ _⟩
            refine AllOps.cons 15 rfl ?_ ?_
            · intro T w' hb hl hd
              have h0 : T.getD 29 undef = .slice (some ⟨b1, o1, none⟩) n cap1 := hd 12 29 (by kernel_rfl)
              have h1 : T.getD 30 undef = .int .i64 j := hd 13 30 (by kernel_rfl)
              exact Or.inl ⟨.pointer (some ⟨b1, o1 + j * 3, none⟩), w', by go_simp, rfl, Below.refl _ _⟩
            refine AllOps.cons 16 rfl ?_ ?_
            · intro T w' hb hl hd
              have h0 : T.getD 31 undef = .pointer (some ⟨b1, o1 + j * 3, none⟩) := hd 14 31 (by kernel_rfl)
              exact Or.inl ⟨.pointer (some ⟨b1, o1 + j * 3 + 1, none⟩), w', by go_simp, rfl, Below.refl _ _⟩
            refine AllOps.cons 17 rfl ?_ ?_
            · intro T w' hb hl hd
              have h0 : T.getD 32 undef = .pointer (some ⟨b1, o1 + j * 3 + 1, none⟩) := hd 15 32 (by kernel_rfl)
              have cc := cell_later hb C11.out
              exact Or.inl ⟨.int .i64 p, w', by go_simp, rfl, Below.refl _ _⟩
            refine AllOps.cons 18 rfl ?_ ?_
            · intro T w' hb hl hd
              have h0 : T.getD 1 undef = .slice (some ⟨b2, o2, none⟩) n cap2 := hl 1 (by kernel_rfl)
              exact Or.inl ⟨.slice (some ⟨b2, o2, none⟩) n cap2, w', by go_simp, rfl, Below.refl _ _⟩
            refine AllOps.cons 19 rfl ?_ ?_
            · intro T w' hb hl hd
              have h0 : T.getD 5 undef = .int .i64 j := hl 5 (by kernel_rfl)
              exact Or.inl ⟨.int .i64 j, w', by go_simp, rfl, Below.refl _ _⟩
            refine AllOps.cons 20 rfl ?_ ?_
            · intro T w' hb hl hd
              have h0 : T.getD 34 undef = .slice (some ⟨b2, o2, none⟩) n cap2 := hd 17 34 (by kernel_rfl)
              have h1 : T.getD 35 undef = .int .i64 j := hd 18 35 (by kernel_rfl)
              exact Or.inl ⟨.pointer (some ⟨b2, o2 + j * 3, none⟩), w', by go_simp, rfl, Below.refl _ _⟩
            refine AllOps.cons 21 rfl ?_ ?_
            · intro T w' hb hl hd
              have h0 : T.getD 36 undef = .pointer (some ⟨b2, o2 + j * 3, none⟩) := hd 19 36 (by kernel_rfl)
              exact Or.inl ⟨.pointer (some ⟨b2, o2 + j * 3 + 1, none⟩), w', by go_simp, rfl, Below.refl _ _⟩
            refine AllOps.cons 22 rfl ?_ ?_
            · intro T w' hb hl hd
              have h0 : T.getD 37 undef = .pointer (some ⟨b2, o2 + j * 3 + 1, none⟩) := hd 20 37 (by kernel_rfl)
              have cc := cell_later hb C21.out
              exact Or.inl ⟨.int .i64 p, w', by go_simp, rfl, Below.refl _ _⟩
            refine AllOps.cons 23 rfl ?_ ?_
            · intro T w' hb hl hd
              have h0 : T.getD 33 undef = .int .i64 p := hd 16 33 (by kernel_rfl)
              have h1 : T.getD 38 undef = .int .i64 p := hd 21 38 (by kernel_rfl)
              exact Or.inl ⟨.bool false, w', by go_simp, rfl, Below.refl _ _⟩
            refine AllOps.cons 24 rfl ?_ ?_
            · intro T w' hb hl hd
              have h0 : T.getD 28 undef = .bool false := hd 11 28 (by kernel_rfl)
              have h1 : T.getD 39 undef = .bool false := hd 22 39 (by kernel_rfl)
              exact Or.inl ⟨.bool false, w', by go_simp, rfl, Below.refl _ _⟩
            refine AllOps.cons 25 rfl ?_ ?_
            · intro T w' hb hl hd
              have h0 : T.getD 40 undef = .bool false := hd 23 40 (by kernel_rfl)
              exact Or.inl ⟨.bool false, w', by go_simp, rfl, Below.refl _ _⟩
            refine AllOps.cons 26 rfl ?_ ?_
            · intro T w' hb hl hd
              have h0 : T.getD 0 undef = .slice (some ⟨b1, o1, none⟩) n cap1 := hl 0 (by kernel_rfl)
              exact Or.inl ⟨.slice (some ⟨b1, o1, none⟩) n cap1, w', by go_simp, rfl, Below.refl _ _⟩
            refine AllOps.cons 27 rfl ?_ ?_
            · intro T w' hb hl hd
              have h0 : T.getD 5 undef = .int .i64 j := hl 5 (by kernel_rfl)
              exact Or.inl ⟨.int .i64 j, w', by go_simp, rfl, Below.refl _ _⟩
            refine AllOps.cons 28 rfl ?_ ?_
            · intro T w' hb hl hd
              have h0 : T.getD 42 undef = .slice (some ⟨b1, o1, none⟩) n cap1 := hd 25 42 (by kernel_rfl)
              have h1 : T.getD 43 undef = .int .i64 j := hd 26 43 (by kernel_rfl)
              exact Or.inl ⟨.pointer (some ⟨b1, o1 + j * 3, none⟩), w', by go_simp, rfl, Below.refl _ _⟩
            refine AllOps.cons 29 rfl ?_ ?_
            · intro T w' hb hl hd
              have h0 : T.getD 44 undef = .pointer (some ⟨b1, o1 + j * 3, none⟩) := hd 27 44 (by kernel_rfl)
              exact Or.inl ⟨.pointer (some ⟨b1, o1 + j * 3 + 2, none⟩), w', by go_simp, rfl, Below.refl _ _⟩
            refine AllOps.cons 30 rfl ?_ ?_
            · intro T w' hb hl hd
              have h0 : T.getD 45 undef = .pointer (some ⟨b1, o1 + j * 3 + 2, none⟩) := hd 28 45 (by kernel_rfl)
              have cc := cell_later hb C12.out
              exact Or.inl ⟨.slice x1 m k1, w', by go_simp, rfl, Below.refl _ _⟩
            refine AllOps.cons 31 rfl ?_ ?_
            · intro T w' hb hl hd
              have h0 : T.getD 1 undef = .slice (some ⟨b2, o2, none⟩) n cap2 := hl 1 (by kernel_rfl)
              exact Or.inl ⟨.slice (some ⟨b2, o2, none⟩) n cap2, w', by go_simp, rfl, Below.refl _ _⟩
            refine AllOps.cons 32 rfl ?_ ?_
            · intro T w' hb hl hd
              have h0 : T.getD 5 undef = .int .i64 j := hl 5 (by kernel_rfl)
              exact Or.inl ⟨.int .i64 j, w', by go_simp, rfl, Below.refl _ _⟩
            refine AllOps.cons 33 rfl ?_ ?_
            · intro T w' hb hl hd
              have h0 : T.getD 47 undef = .slice (some ⟨b2, o2, none⟩) n cap2 := hd 30 47 (by kernel_rfl)
              have h1 : T.getD 48 undef = .int .i64 j := hd 31 48 (by kernel_rfl)
              exact Or.inl ⟨.pointer (some ⟨b2, o2 + j * 3, none⟩), w', by go_simp, rfl, Below.refl _ _⟩
            refine AllOps.cons 34 rfl ?_ ?_
            · intro T w' hb hl hd
              have h0 : T.getD 49 undef = .pointer (some ⟨b2, o2 + j * 3, none⟩) := hd 32 49 (by kernel_rfl)
              exact Or.inl ⟨.pointer (some ⟨b2, o2 + j * 3 + 2, none⟩), w', by go_simp, rfl, Below.refl _ _⟩
            refine AllOps.cons 35 rfl ?_ ?_
            · intro T w' hb hl hd
              have h0 : T.getD 50 undef = .pointer (some ⟨b2, o2 + j * 3 + 2, none⟩) := hd 33 50 (by kernel_rfl)
              have cc := cell_later hb C22.out
              exact Or.inl ⟨.slice x2 m k2, w', by go_simp, rfl, Below.refl _ _⟩
            refine AllOps.cons 36 rfl ?_ ?_
            · intro T w' hb hl hd
              have h0 : T.getD 46 undef = .slice x1 m k1 := hd 29 46 (by kernel_rfl)
              have h1 : T.getD 51 undef = .slice x2 m k2 := hd 34 51 (by kernel_rfl)
              refine Or.inr ⟨22, #[.slice x1 m k1, .slice x2 m k2], by go_simp, ?_⟩
              refine (KP.out w' hb).mono ?_
              rintro e w'' ⟨rfl, hbb⟩
              exact ⟨_, rfl, rfl, below_of_drawn hbb⟩
            refine AllOps.cons 37 rfl ?_ ?_
            · intro T w' hb hl hd
              have h0 : T.getD 52 undef = .bool true := hd 35 52 (by kernel_rfl)
              exact Or.inl ⟨.bool false, w', by go_simp, rfl, Below.refl _ _⟩
            refine AllOps.cons 38 rfl ?_ ?_
            · intro T w' hb hl hd
              have h0 : T.getD 41 undef = .bool false := hd 24 41 (by kernel_rfl)
              have h1 : T.getD 53 undef = .bool false := hd 36 53 (by kernel_rfl)
              exact Or.inl ⟨.bool false, w', by go_simp, rfl, Below.refl _ _⟩
            exact trivial
          case hfin =>
            intro T w' hb hs hl hd
            have e54 : T.getD 54 undef = .bool false := hd 37 54 (by kernel_rfl)
            rw [lit_then [true, true, true, true, true, true, true, true, true, true, true, true, true, true, true, true, true, false, false, false, false, false, false, false, false, false, false, false, false, false, false, false, false, false, false, false, false, false, false, false, false, false, false, false, false, false, false, false, false, false, false, false, false, false, false] (by kernel_rfl) hs hl]
            obtain ⟨us, hus⟩ : ∃ us : Nat → Value, (fun d => T.getD d undef) = us := ⟨_, rfl⟩
            rw [hus]
            have f54 : us 54 = .bool false := by rw [← hus]; exact e54
            apply_assumption
            simp only [fillL]
            go_meet
            exact ⟨f54, hb⟩
        case rest =>
          obtain ⟨rfl, hb⟩ := hcut
          have HB9 := hid (below_from HBL.out hb)
          clear hb
          go_wp2
          go_roundw
          case rel => exact ⟨j + 1, by go_num, by omega, HB9.out⟩
          case measure => simp [intOf]; omega
      · obtain rfl : j = n := by omega
        go_wp2
        go_ret
        exact ⟨rfl, HBL.out⟩
  · obtain rfl : n = 0 := by omega
    clear h1 h2 he
    go_enter Tryz.func51, Tryz.ntmps51
    go_wp2
    go_loop [5] (fun s => s = .int .i64 0) (fun _ => 0)
    case atStart => rfl
    case round =>
      subst hrel
      go_wp2
      go_ret
      exact ⟨rfl, Below.refl _ _⟩

theorem rq_boxes (w : World) (r s : Rq) {W : World} (hW : W = (w.alloc (.cells #[.int .i64 r.queue, .int .i64 r.fr, .int .i64 r.un, .int .i64 r.kind, .slice r.pa r.pn r.pc] 40)).alloc (.cells #[.int .i64 s.queue, .int .i64 s.fr, .int .i64 s.un, .int .i64 s.kind, .slice s.pa s.pn s.pc] 40)) : RqBox W w.heap.size r ∧ RqBox W (w.heap.size + 1) s ∧ Below w.heap.size w W := by
  subst hW
  refine ⟨(Below.heap_alloc _ _ _ (by simp)).trans (heap_alloc_new w _), ?_, ((Below.refl _ _).alloc (Nat.le_refl _) _).alloc (by simp) _⟩
  have := heap_alloc_new (w.alloc (.cells #[.int .i64 r.queue, .int .i64 r.fr, .int .i64 r.un, .int .i64 r.kind, .slice r.pa r.pn r.pc] 40)) (.cells #[.int .i64 s.queue, .int .i64 s.fr, .int .i64 s.un, .int .i64 s.kind, .slice s.pa s.pn s.pc] 40)
  rw [World.size_alloc] at this
  exact this
set_option maxRecDepth 100000 in
set_option maxHeartbeats 1000000 in
theorem SameReqs_at (w : World) (q f u k : Int) (a1 a2 : Option Addr) (n c1 c2 : Nat) (l : RunL) (h1 : RunsIn w a1 n c1 l) (h2 : RunsIn w a2 n c2 l) :
    Calls Tryz.prog 17 #[.agg #[.int .i64 q, .int .i64 f, .int .i64 u, .int .i64 k, .slice a1 n c1], .agg #[.int .i64 q, .int .i64 f, .int .i64 u, .int .i64 k, .slice a2 n c2]] w fun e w' => e = .returned (.bool true) ∧ Below w.heap.size w w' := by
  obtain ⟨S, hS⟩ : ∃ S, w.heap.size = S := ⟨_, rfl⟩
  obtain ⟨W1, hW1⟩ : ∃ W1, W1 = (w.alloc (.cells #[.int .i64 q, .int .i64 f, .int .i64 u, .int .i64 k, .slice a1 n c1] 40)).alloc (.cells #[.int .i64 q, .int .i64 f, .int .i64 u, .int .i64 k, .slice a2 n c2] 40) := ⟨_, rfl⟩
  obtain ⟨x1, x2, hb0⟩ := rq_boxes w ⟨q, f, u, k, a1, n, c1, l⟩ ⟨q, f, u, k, a2, n, c2, l⟩ hW1
  rw [hS] at x1 x2
  have hle := h1.le
  have hbd := h1.bound
  have hcb := h1.capb
  have hle2 := h2.le
  have hcb2 := h2.capb
  have hcc : Hid (0 < n → ∃ b1 off1 b2 off2, a1 = some ⟨b1, off1, none⟩ ∧ a2 = some ⟨b2, off2, none⟩ ∧ (∀ i, i < n → W1.cell? ⟨b1, off1 + i * 2, none⟩ = some (.int .i64 (rAt l i)) ∧ W1.cell? ⟨b1, off1 + i * 2 + 1, none⟩ = some (.int .i64 (rN l i))) ∧ (∀ i, i < n → W1.cell? ⟨b2, off2 + i * 2, none⟩ = some (.int .i64 (rAt l i)) ∧ W1.cell? ⟨b2, off2 + i * 2 + 1, none⟩ = some (.int .i64 (rN l i)))) := by
    intro hp
    obtain ⟨b1, o1, e1, d1⟩ := (h1.later hb0).cells hp
    obtain ⟨b2, o2, e2, d2⟩ := (h2.later hb0).cells hp
    exact ⟨b1, o1, b2, o2, e1, e2, d1, d2⟩
  have HB0 := hid hb0
  have HW1 := hid hW1
  have HX1 := hid x1
  have HX2 := hid x2
  have hq : (q != q) = false := by simp
  have hf : (f != f) = false := by simp
  have hu : (u != u) = false := by simp
  have hk : (k != k) = false := by simp
  have hne : ((n : Int) != n) = false := by simp
  obtain ⟨p0, p1, p2, p3, p4⟩ := x1.cells
  obtain ⟨s0, s1, s2, s3, s4⟩ := x2.cells
  clear h1 h2 hb0 x1 x2 hW1
  by_cases hp : 0 < n
  · obtain ⟨b1, o1, b2, o2, rfl, rfl, d1, d2⟩ := hcc.out hp
    go_enter Tryz.func17, Tryz.ntmps17
    go_wp2
    go_loopw [5] (fun s wr => ∃ j : Nat, s = .int .i64 j ∧ j ≤ n ∧ ∃ d, wr = W1.drewN d) (fun s _ => n - (intOf s).toNat)
    case atStart => exact ⟨0, rfl, by omega, 0, by rw [HW1.out]; rfl⟩
    case round =>
      obtain ⟨j, rfl, hj1, hd⟩ := hrel
      have HD : Hid (∃ d, wr = W1.drewN d) := hd
      have hcr : ∀ a, wr.cell? a = W1.cell? a := by obtain ⟨d, rfl⟩ := hd; exact fun a => rfl
      clear hd
      have t4 : wr.cell? ⟨S, 4, none⟩ = some (.slice (some ⟨b1, o1, none⟩) n c1) := (hcr _).trans p4
      have v4 : wr.cell? ⟨S + 1, 4, none⟩ = some (.slice (some ⟨b2, o2, none⟩) n c2) := (hcr _).trans s4
      by_cases hj : j < n
      · have hj' : (j : Int) < n := by omega
        have y0 : wr.cell? ⟨b1, o1 + j * 2, none⟩ = some (.int .i64 (rAt l j)) := (hcr _).trans (d1 j hj).1
        have y1 : wr.cell? ⟨b1, o1 + j * 2 + 1, none⟩ = some (.int .i64 (rN l j)) := (hcr _).trans (d1 j hj).2
        have z0 : wr.cell? ⟨b2, o2 + j * 2, none⟩ = some (.int .i64 (rAt l j)) := (hcr _).trans (d2 j hj).1
        have z1 : wr.cell? ⟨b2, o2 + j * 2 + 1, none⟩ = some (.int .i64 (rN l j)) := (hcr _).trans (d2 j hj).2
        clear hcr d1 d2
        go_wp2
        go_quiet (fail)
        go_wp2
        go_roundw
        case rel => exact ⟨j + 1, by go_num, by omega, drawn_more HD _⟩
        case measure => simp [intOf]; omega
      · obtain rfl : j = n := by omega
        clear hcr d1 d2
        go_wp2
        go_ret
        refine ⟨rfl, ?_⟩
        obtain ⟨d, hd⟩ := HD.out
        rw [hd]
        exact below_from HB0.out (below_drewN W1 d)
  · obtain rfl : n = 0 := by omega
    clear hcc
    go_enter Tryz.func17, Tryz.ntmps17
    go_wp2
    go_loopw [5] (fun s wr => s = .int .i64 0 ∧ wr = W1) (fun _ _ => 0)
    case atStart => exact ⟨rfl, HW1.out.symm⟩
    case round =>
      obtain ⟨rfl, rfl⟩ := hrel
      go_wp2
      go_ret
      exact ⟨rfl, HB0.out⟩
theorem SameReqs_same (w : World) (r s : Rq) (h1 : RqIn w r) (h2 : RqIn w s) (he : r.bare = s.bare) :
    Calls Tryz.prog 17 #[.agg #[.int .i64 r.queue, .int .i64 r.fr, .int .i64 r.un, .int .i64 r.kind, .slice r.pa r.pn r.pc], .agg #[.int .i64 s.queue, .int .i64 s.fr, .int .i64 s.un, .int .i64 s.kind, .slice s.pa s.pn s.pc]] w fun e w' => e = .returned (.bool true) ∧ Below w.heap.size w w' := by
  obtain ⟨e1, e2, e3, e4, e5⟩ := same_rq he
  have g1 : RunsIn w r.pa r.pn r.pc r.ps := h1
  have g2 : RunsIn w s.pa s.pn s.pc s.ps := h2
  have em : r.pn = s.pn := g1.len.trans ((congrArg List.length e5).trans g2.len.symm)
  rw [em, e5] at g1
  rw [e1, e2, e3, e4, em]
  exact SameReqs_at w s.queue s.fr s.un s.kind r.pa s.pa s.pn r.pc s.pc s.ps g1 g2

set_option maxRecDepth 100000 in
set_option maxHeartbeats 1000000 in
theorem SameBooks_same (w : World) (a1 a2 : Option Addr) (n cap1 cap2 : Nat) (l m0 : BL) (h1 : BksIn w a1 n cap1 l) (h2 : BksIn w a2 n cap2 m0) (he : bareB l = bareB m0) :
    Calls Tryz.prog 23 #[.slice a1 n cap1, .slice a2 n cap2] w fun e w' => e = .returned (.bool true) ∧ Below w.heap.size w w' := by
  have hle := h1.le
  have hcb := h1.capb
  have hle2 := h2.le
  have hcb2 := h2.capb
  have hne : ((n : Int) != n) = false := by simp
  by_cases hp : 0 < n
  · obtain ⟨b1, o1, rfl, c1⟩ := h1.cells hp
    obtain ⟨b2, o2, rfl, c2⟩ := h2.cells hp
    have KC : Hid (∀ (Y : World), Below w.heap.size w Y → ∀ j, j < n → ∃ (id : Int) (r1 r2 : Rq) (x1 : Option Addr) (m k1 : Nat) (x2 : Option Addr) (k2 : Nat) (r : RunL), (Y.cell? ⟨b1, o1 + j * 7, none⟩ = some (.int .i64 id) ∧ Y.cell? ⟨b1, o1 + j * 7 + 1, none⟩ = some (.int .i64 r1.queue) ∧ Y.cell? ⟨b1, o1 + j * 7 + 2, none⟩ = some (.int .i64 r1.fr) ∧ Y.cell? ⟨b1, o1 + j * 7 + 3, none⟩ = some (.int .i64 r1.un) ∧ Y.cell? ⟨b1, o1 + j * 7 + 4, none⟩ = some (.int .i64 r1.kind) ∧ Y.cell? ⟨b1, o1 + j * 7 + 5, none⟩ = some (.slice r1.pa r1.pn r1.pc) ∧ Y.cell? ⟨b1, o1 + j * 7 + 6, none⟩ = some (.slice x1 m k1)) ∧ (Y.cell? ⟨b2, o2 + j * 7, none⟩ = some (.int .i64 id) ∧ Y.cell? ⟨b2, o2 + j * 7 + 1, none⟩ = some (.int .i64 r2.queue) ∧ Y.cell? ⟨b2, o2 + j * 7 + 2, none⟩ = some (.int .i64 r2.fr) ∧ Y.cell? ⟨b2, o2 + j * 7 + 3, none⟩ = some (.int .i64 r2.un) ∧ Y.cell? ⟨b2, o2 + j * 7 + 4, none⟩ = some (.int .i64 r2.kind) ∧ Y.cell? ⟨b2, o2 + j * 7 + 5, none⟩ = some (.slice r2.pa r2.pn r2.pc) ∧ Y.cell? ⟨b2, o2 + j * 7 + 6, none⟩ = some (.slice x2 m k2)) ∧ RunsIn Y x1 m k1 r ∧ RunsIn Y x2 m k2 r ∧ RqIn Y r1 ∧ RqIn Y r2 ∧ r1.bare = r2.bare) := by
      intro Y hY j hj
      obtain ⟨u0, u1, u2, u3, u4, u5, u6⟩ := c1 j hj
      obtain ⟨v0, v1, v2, v3, v4, v5, v6⟩ := c2 j hj
      obtain ⟨q0, q1, q2⟩ := same_bk he j
      have r1 := (h1.bites j hj).later hY
      have r2 := (h2.bites j hj).later hY
      have em : (bk l j).bn = (bk m0 j).bn := r1.len.trans ((congrArg List.length q2).trans r2.len.symm)
      rw [q0] at u0
      rw [em] at u6 r1
      rw [q2] at r1
      exact ⟨_, _, _, _, _, _, _, _, _, ⟨cell_later hY u0, cell_later hY u1, cell_later hY u2, cell_later hY u3, cell_later hY u4, cell_later hY u5, cell_later hY u6⟩, ⟨cell_later hY v0, cell_later hY v1, cell_later hY v2, cell_later hY v3, cell_later hY v4, cell_later hY v5, cell_later hY v6⟩, r1, r2, (h1.rqs j hj).later hY, (h2.rqs j hj).later hY, q1⟩
    clear h1 h2 he c1 c2
    go_enter Tryz.func23, Tryz.ntmps23
    go_wp2_with fail
    go_loopw [5] (fun p wr => ∃ j : Nat, p = .int .i64 j ∧ j ≤ n ∧ Below w.heap.size w wr) (fun p _ => n - (intOf p).toNat)
    case atStart => exact ⟨0, rfl, by omega, Below.refl _ _⟩
    case round =>
      obtain ⟨j, rfl, hj, hbel⟩ := hrel
      have HBL := hid hbel
      clear hbel
      by_cases hlt : j < n
      · have hlt' : (j : Int) < n := by omega
        obtain ⟨id, r1, r2, x1, m, k1, x2, k2, r, ⟨u0, u1, u2, u3, u4, u5, u6⟩, ⟨v0, v1, v2, v3, v4, v5, v6⟩, g1, g2, g3, g4, g5⟩ := KC.out wr HBL.out j hlt
        have C10 := hid u0
        have C20 := hid v0
        have C11 := hid u1
        have C21 := hid v1
        have C12 := hid u2
        have C22 := hid v2
        have C13 := hid u3
        have C23 := hid v3
        have C14 := hid u4
        have C24 := hid v4
        have C15 := hid u5
        have C25 := hid v5
        have C16 := hid u6
        have C26 := hid v6
        have KP := hid fun Y (hY : Below wr.heap.size wr Y) => SameBites_same Y x1 x2 m k1 k2 r (g1.later hY) (g2.later hY)
        have KR := hid fun Y (hY : Below wr.heap.size wr Y) => SameReqs_same Y r1 r2 (g3.later hY) (g4.later hY) g5
        clear u0 v0 u1 v1 u2 v2 u3 v3 u4 v4 u5 v5 u6 v6 g1 g2 g3 g4 g5
        go_wp2_with fail
        go_cut [55] (fun p wx => p = .bool false ∧ Below wr.heap.size wr wx)
        case first =>
          refine wp_region_des ((Tryz.f23.body.bind fun c => regOps c 6).getD #[]) (by kernel_rfl) [isV (.slice (some ⟨b1, o1, none⟩) n cap1), isV (.int .i64 j), isV (.pointer (some ⟨b1, o1 + j * 7, none⟩)), isV (.pointer (some ⟨b1, o1 + j * 7, none⟩)), isV (.int .i64 id), isV (.slice (some ⟨b2, o2, none⟩) n cap2), isV (.int .i64 j), isV (.pointer (some ⟨b2, o2 + j * 7, none⟩)), isV (.pointer (some ⟨b2, o2 + j * 7, none⟩)), isV (.int .i64 id), isV (.bool false), isV (.bool false), isV (.slice (some ⟨b1, o1, none⟩) n cap1), isV (.int .i64 j), isV (.pointer (some ⟨b1, o1 + j * 7, none⟩)), isV (.pointer (some ⟨b1, o1 + j * 7 + 1, none⟩)), isV (.agg #[.int .i64 r1.queue, .int .i64 r1.fr, .int .i64 r1.un, .int .i64 r1.kind, .slice r1.pa r1.pn r1.pc]), isV (.slice (some ⟨b2, o2, none⟩) n cap2), isV (.int .i64 j), isV (.pointer (some ⟨b2, o2 + j * 7, none⟩)), isV (.pointer (some ⟨b2, o2 + j * 7 + 1, none⟩)), isV (.agg #[.int .i64 r2.queue, .int .i64 r2.fr, .int .i64 r2.un, .int .i64 r2.kind, .slice r2.pa r2.pn r2.pc]), isV (.bool true), isV (.bool false), isV (.bool false), isV (.bool false), isV (.slice (some ⟨b1, o1, none⟩) n cap1), isV (.int .i64 j), isV (.pointer (some ⟨b1, o1 + j * 7, none⟩)), isV (.pointer (some ⟨b1, o1 + j * 7 + 6, none⟩)), isV (.slice x1 m k1), isV (.slice (some ⟨b2, o2, none⟩) n cap2), isV (.int .i64 j), isV (.pointer (some ⟨b2, o2 + j * 7, none⟩)), isV (.pointer (some ⟨b2, o2 + j * 7 + 6, none⟩)), isV (.slice x2 m k2), isV (.bool true), isV (.bool false), isV (.bool false)] [(11, false), (25, false)] (by kernel_rfl) (by kernel_rfl) (by kernel_rfl) ?hg ?hstep ?hfin
          case hg =>
            intro g hg v w h
            simp only [List.mem_cons, List.not_mem_nil, or_false] at hg
            rcases hg with rfl | rfl <;> exact h
          case hstep =>
            refine AllOps.cons 1 rfl ?_ ?_
            · intro T w' hb hl hd
              have h0 : T.getD 0 undef = .slice (some ⟨b1, o1, none⟩) n cap1 := hl 0 (by kernel_rfl)
              exact Or.inl ⟨.slice (some ⟨b1, o1, none⟩) n cap1, w', by go_simp, rfl, Below.refl _ _⟩
            refine AllOps.cons 2 rfl ?_ ?_
            · intro T w' hb hl hd
              have h0 : T.getD 5 undef = .int .i64 j := hl 5 (by kernel_rfl)
              exact Or.inl ⟨.int .i64 j, w', by go_simp, rfl, Below.refl _ _⟩
            refine AllOps.cons 3 rfl ?_ ?_
            · intro T w' hb hl hd
              have h0 : T.getD 17 undef = .slice (some ⟨b1, o1, none⟩) n cap1 := hd 0 17 (by kernel_rfl)
              have h1 : T.getD 18 undef = .int .i64 j := hd 1 18 (by kernel_rfl)
              exact Or.inl ⟨.pointer (some ⟨b1, o1 + j * 7, none⟩), w', by go_simp, rfl, Below.refl _ _⟩
            refine AllOps.cons 4 rfl ?_ ?_
            · intro T w' hb hl hd
              have h0 : T.getD 19 undef = .pointer (some ⟨b1, o1 + j * 7, none⟩) := hd 2 19 (by kernel_rfl)
              exact Or.inl ⟨.pointer (some ⟨b1, o1 + j * 7, none⟩), w', by go_simp, rfl, Below.refl _ _⟩
            refine AllOps.cons 5 rfl ?_ ?_
            · intro T w' hb hl hd
              have h0 : T.getD 20 undef = .pointer (some ⟨b1, o1 + j * 7, none⟩) := hd 3 20 (by kernel_rfl)
              have cc := cell_later hb C10.out
              exact Or.inl ⟨.int .i64 id, w', by go_simp, rfl, Below.refl _ _⟩
            refine AllOps.cons 6 rfl ?_ ?_
            · intro T w' hb hl hd
              have h0 : T.getD 1 undef = .slice (some ⟨b2, o2, none⟩) n cap2 := hl 1 (by kernel_rfl)
              exact Or.inl ⟨.slice (some ⟨b2, o2, none⟩) n cap2, w', by go_simp, rfl, Below.refl _ _⟩
            refine AllOps.cons 7 rfl ?_ ?_
            · intro T w' hb hl hd
              have h0 : T.getD 5 undef = .int .i64 j := hl 5 (by kernel_rfl)
              exact Or.inl ⟨.int .i64 j, w', by go_simp, rfl, Below.refl _ _⟩
            refine AllOps.cons 8 rfl ?_ ?_
            · intro T w' hb hl hd
              have h0 : T.getD 22 undef = .slice (some ⟨b2, o2, none⟩) n cap2 := hd 5 22 (by kernel_rfl)
              have h1 : T.getD 23 undef = .int .i64 j := hd 6 23 (by kernel_rfl)
              exact Or.inl ⟨.pointer (some ⟨b2, o2 + j * 7, none⟩), w', by go_simp, rfl, Below.refl _ _⟩
            refine AllOps.cons 9 rfl ?_ ?_
            · intro T w' hb hl hd
              have h0 : T.getD 24 undef = .pointer (some ⟨b2, o2 + j * 7, none⟩) := hd 7 24 (by kernel_rfl)
              exact Or.inl ⟨.pointer (some ⟨b2, o2 + j * 7, none⟩), w', by go_simp, rfl, Below.refl _ _⟩
            refine AllOps.cons 10 rfl ?_ ?_
            · intro T w' hb hl hd
              have h0 : T.getD 25 undef = .pointer (some ⟨b2, o2 + j * 7, none⟩) := hd 8 25 (by kernel_rfl)
              have cc := cell_later hb C20.out
              exact Or.inl ⟨.int .i64 id, w', by go_simp, rfl, Below.refl _ _⟩
            refine AllOps.cons 11 rfl ?_ ?_
            · intro T w' hb hl hd
              have h0 : T.getD 21 undef = .int .i64 id := hd 4 21 (by kernel_rfl)
              have h1 : T.getD 26 undef = .int .i64 id := hd 9 26 (by kernel_rfl)
              exact Or.inl ⟨.bool false, w', by go_simp, rfl, Below.refl _ _⟩
            refine AllOps.cons 12 rfl ?_ ?_
            · intro T w' hb hl hd
              have h0 : T.getD 27 undef = .bool false := hd 10 27 (by kernel_rfl)
              exact Or.inl ⟨.bool false, w', by go_simp, rfl, Below.refl _ _⟩
            refine AllOps.cons 13 rfl ?_ ?_
            · intro T w' hb hl hd
              have h0 : T.getD 0 undef = .slice (some ⟨b1, o1, none⟩) n cap1 := hl 0 (by kernel_rfl)
              exact Or.inl ⟨.slice (some ⟨b1, o1, none⟩) n cap1, w', by go_simp, rfl, Below.refl _ _⟩
            refine AllOps.cons 14 rfl ?_ ?_
            · intro T w' hb hl hd
              have h0 : T.getD 5 undef = .int .i64 j := hl 5 (by kernel_rfl)
              exact Or.inl ⟨.int .i64 j, w', by go_simp, rfl, Below.refl _ _⟩
            refine AllOps.cons 15 rfl ?_ ?_
            · intro T w' hb hl hd
              have h0 : T.getD 29 undef = .slice (some ⟨b1, o1, none⟩) n cap1 := hd 12 29 (by kernel_rfl)
              have h1 : T.getD 30 undef = .int .i64 j := hd 13 30 (by kernel_rfl)
              exact Or.inl ⟨.pointer (some ⟨b1, o1 + j * 7, none⟩), w', by go_simp, rfl, Below.refl _ _⟩
            refine AllOps.cons 16 rfl ?_ ?_
            · intro T w' hb hl hd
              have h0 : T.getD 31 undef = .pointer (some ⟨b1, o1 + j * 7, none⟩) := hd 14 31 (by kernel_rfl)
              exact Or.inl ⟨.pointer (some ⟨b1, o1 + j * 7 + 1, none⟩), w', by go_simp, rfl, Below.refl _ _⟩
            refine AllOps.cons 17 rfl ?_ ?_
            · intro T w' hb hl hd
              have h0 : T.getD 32 undef = .pointer (some ⟨b1, o1 + j * 7 + 1, none⟩) := hd 15 32 (by kernel_rfl)
              have cc1 := cell_later hb C11.out
              have cc2 := cell_later hb C12.out
              have cc3 := cell_later hb C13.out
              have cc4 := cell_later hb C14.out
              have cc5 := cell_later hb C15.out
              exact Or.inl ⟨.agg #[.int .i64 r1.queue, .int .i64 r1.fr, .int .i64 r1.un, .int .i64 r1.kind, .slice r1.pa r1.pn r1.pc], w', by go_simp, rfl, Below.refl _ _⟩
            refine AllOps.cons 18 rfl ?_ ?_
            · intro T w' hb hl hd
              have h0 : T.getD 1 undef = .slice (some ⟨b2, o2, none⟩) n cap2 := hl 1 (by kernel_rfl)
              exact Or.inl ⟨.slice (some ⟨b2, o2, none⟩) n cap2, w', by go_simp, rfl, Below.refl _ _⟩
            refine AllOps.cons 19 rfl ?_ ?_
            · intro T w' hb hl hd
              have h0 : T.getD 5 undef = .int .i64 j := hl 5 (by kernel_rfl)
              exact Or.inl ⟨.int .i64 j, w', by go_simp, rfl, Below.refl _ _⟩
            refine AllOps.cons 20 rfl ?_ ?_
            · intro T w' hb hl hd
              have h0 : T.getD 34 undef = .slice (some ⟨b2, o2, none⟩) n cap2 := hd 17 34 (by kernel_rfl)
              have h1 : T.getD 35 undef = .int .i64 j := hd 18 35 (by kernel_rfl)
              exact Or.inl ⟨.pointer (some ⟨b2, o2 + j * 7, none⟩), w', by go_simp, rfl, Below.refl _ _⟩
            refine AllOps.cons 21 rfl ?_ ?_
            · intro T w' hb hl hd
              have h0 : T.getD 36 undef = .pointer (some ⟨b2, o2 + j * 7, none⟩) := hd 19 36 (by kernel_rfl)
              exact Or.inl ⟨.pointer (some ⟨b2, o2 + j * 7 + 1, none⟩), w', by go_simp, rfl, Below.refl _ _⟩
            refine AllOps.cons 22 rfl ?_ ?_
            · intro T w' hb hl hd
              have h0 : T.getD 37 undef = .pointer (some ⟨b2, o2 + j * 7 + 1, none⟩) := hd 20 37 (by kernel_rfl)
              have cc1 := cell_later hb C21.out
              have cc2 := cell_later hb C22.out
              have cc3 := cell_later hb C23.out
              have cc4 := cell_later hb C24.out
              have cc5 := cell_later hb C25.out
              exact Or.inl ⟨.agg #[.int .i64 r2.queue, .int .i64 r2.fr, .int .i64 r2.un, .int .i64 r2.kind, .slice r2.pa r2.pn r2.pc], w', by go_simp, rfl, Below.refl _ _⟩
            refine AllOps.cons 23 rfl ?_ ?_
            · intro T w' hb hl hd
              have h0 : T.getD 33 undef = .agg #[.int .i64 r1.queue, .int .i64 r1.fr, .int .i64 r1.un, .int .i64 r1.kind, .slice r1.pa r1.pn r1.pc] := hd 16 33 (by kernel_rfl)
              have h1 : T.getD 38 undef = .agg #[.int .i64 r2.queue, .int .i64 r2.fr, .int .i64 r2.un, .int .i64 r2.kind, .slice r2.pa r2.pn r2.pc] := hd 21 38 (by kernel_rfl)
              refine Or.inr ⟨17, #[.agg #[.int .i64 r1.queue, .int .i64 r1.fr, .int .i64 r1.un, .int .i64 r1.kind, .slice r1.pa r1.pn r1.pc], .agg #[.int .i64 r2.queue, .int .i64 r2.fr, .int .i64 r2.un, .int .i64 r2.kind, .slice r2.pa r2.pn r2.pc]], by go_simp, ?_⟩
              refine (KR.out w' hb).mono ?_
              rintro e w'' ⟨rfl, hbb⟩
              exact ⟨_, rfl, rfl, hbb⟩
            refine AllOps.cons 24 rfl ?_ ?_
            · intro T w' hb hl hd
              have h0 : T.getD 39 undef = .bool true := hd 22 39 (by kernel_rfl)
              exact Or.inl ⟨.bool false, w', by go_simp, rfl, Below.refl _ _⟩
            refine AllOps.cons 25 rfl ?_ ?_
            · intro T w' hb hl hd
              have h0 : T.getD 28 undef = .bool false := hd 11 28 (by kernel_rfl)
              have h1 : T.getD 40 undef = .bool false := hd 23 40 (by kernel_rfl)
              exact Or.inl ⟨.bool false, w', by go_simp, rfl, Below.refl _ _⟩
            refine AllOps.cons 26 rfl ?_ ?_
            · intro T w' hb hl hd
              have h0 : T.getD 41 undef = .bool false := hd 24 41 (by kernel_rfl)
              exact Or.inl ⟨.bool false, w', by go_simp, rfl, Below.refl _ _⟩
            refine AllOps.cons 27 rfl ?_ ?_
            · intro T w' hb hl hd
              have h0 : T.getD 0 undef = .slice (some ⟨b1, o1, none⟩) n cap1 := hl 0 (by kernel_rfl)
              exact Or.inl ⟨.slice (some ⟨b1, o1, none⟩) n cap1, w', by go_simp, rfl, Below.refl _ _⟩
            refine AllOps.cons 28 rfl ?_ ?_
            · intro T w' hb hl hd
              have h0 : T.getD 5 undef = .int .i64 j := hl 5 (by kernel_rfl)
              exact Or.inl ⟨.int .i64 j, w', by go_simp, rfl, Below.refl _ _⟩
            refine AllOps.cons 29 rfl ?_ ?_
            · intro T w' hb hl hd
              have h0 : T.getD 43 undef = .slice (some ⟨b1, o1, none⟩) n cap1 := hd 26 43 (by kernel_rfl)
              have h1 : T.getD 44 undef = .int .i64 j := hd 27 44 (by kernel_rfl)
              exact Or.inl ⟨.pointer (some ⟨b1, o1 + j * 7, none⟩), w', by go_simp, rfl, Below.refl _ _⟩
            refine AllOps.cons 30 rfl ?_ ?_
            · intro T w' hb hl hd
              have h0 : T.getD 45 undef = .pointer (some ⟨b1, o1 + j * 7, none⟩) := hd 28 45 (by kernel_rfl)
              exact Or.inl ⟨.pointer (some ⟨b1, o1 + j * 7 + 6, none⟩), w', by go_simp, rfl, Below.refl _ _⟩
            refine AllOps.cons 31 rfl ?_ ?_
            · intro T w' hb hl hd
              have h0 : T.getD 46 undef = .pointer (some ⟨b1, o1 + j * 7 + 6, none⟩) := hd 29 46 (by kernel_rfl)
              have cc := cell_later hb C16.out
              exact Or.inl ⟨.slice x1 m k1, w', by go_simp, rfl, Below.refl _ _⟩
            refine AllOps.cons 32 rfl ?_ ?_
            · intro T w' hb hl hd
              have h0 : T.getD 1 undef = .slice (some ⟨b2, o2, none⟩) n cap2 := hl 1 (by kernel_rfl)
              exact Or.inl ⟨.slice (some ⟨b2, o2, none⟩) n cap2, w', by go_simp, rfl, Below.refl _ _⟩
            refine AllOps.cons 33 rfl ?_ ?_
            · intro T w' hb hl hd
              have h0 : T.getD 5 undef = .int .i64 j := hl 5 (by kernel_rfl)
              exact Or.inl ⟨.int .i64 j, w', by go_simp, rfl, Below.refl _ _⟩
            refine AllOps.cons 34 rfl ?_ ?_
            · intro T w' hb hl hd
              have h0 : T.getD 48 undef = .slice (some ⟨b2, o2, none⟩) n cap2 := hd 31 48 (by kernel_rfl)
              have h1 : T.getD 49 undef = .int .i64 j := hd 32 49 (by kernel_rfl)
              exact Or.inl ⟨.pointer (some ⟨b2, o2 + j * 7, none⟩), w', by go_simp, rfl, Below.refl _ _⟩
            refine AllOps.cons 35 rfl ?_ ?_
            · intro T w' hb hl hd
              have h0 : T.getD 50 undef = .pointer (some ⟨b2, o2 + j * 7, none⟩) := hd 33 50 (by kernel_rfl)
              exact Or.inl ⟨.pointer (some ⟨b2, o2 + j * 7 + 6, none⟩), w', by go_simp, rfl, Below.refl _ _⟩
            refine AllOps.cons 36 rfl ?_ ?_
            · intro T w' hb hl hd
              have h0 : T.getD 51 undef = .pointer (some ⟨b2, o2 + j * 7 + 6, none⟩) := hd 34 51 (by kernel_rfl)
              have cc := cell_later hb C26.out
              exact Or.inl ⟨.slice x2 m k2, w', by go_simp, rfl, Below.refl _ _⟩
            refine AllOps.cons 37 rfl ?_ ?_
            · intro T w' hb hl hd
              have h0 : T.getD 47 undef = .slice x1 m k1 := hd 30 47 (by kernel_rfl)
              have h1 : T.getD 52 undef = .slice x2 m k2 := hd 35 52 (by kernel_rfl)
              refine Or.inr ⟨18, #[.slice x1 m k1, .slice x2 m k2], by go_simp, ?_⟩
              refine (KP.out w' hb).mono ?_
              rintro e w'' ⟨rfl, hbb⟩
              exact ⟨_, rfl, rfl, below_of_drawn hbb⟩
            refine AllOps.cons 38 rfl ?_ ?_
            · intro T w' hb hl hd
              have h0 : T.getD 53 undef = .bool true := hd 36 53 (by kernel_rfl)
              exact Or.inl ⟨.bool false, w', by go_simp, rfl, Below.refl _ _⟩
            refine AllOps.cons 39 rfl ?_ ?_
            · intro T w' hb hl hd
              have h0 : T.getD 42 undef = .bool false := hd 25 42 (by kernel_rfl)
              have h1 : T.getD 54 undef = .bool false := hd 37 54 (by kernel_rfl)
              exact Or.inl ⟨.bool false, w', by go_simp, rfl, Below.refl _ _⟩
            exact trivial
          case hfin =>
            intro T w' hb hs hl hd
            have e55 : T.getD 55 undef = .bool false := hd 38 55 (by kernel_rfl)
            rw [lit_then [true, true, true, true, true, true, true, true, true, true, true, true, true, true, true, true, true, false, false, false, false, false, false, false, false, false, false, false, false, false, false, false, false, false, false, false, false, false, false, false, false, false, false, false, false, false, false, false, false, false, false, false, false, false, false, false] (by kernel_rfl) hs hl]
            obtain ⟨us, hus⟩ : ∃ us : Nat → Value, (fun d => T.getD d undef) = us := ⟨_, rfl⟩
            rw [hus]
            have f55 : us 55 = .bool false := by rw [← hus]; exact e55
            apply_assumption
            simp only [fillL]
            go_meet
            exact ⟨f55, hb⟩
        case rest =>
          obtain ⟨rfl, hb⟩ := hcut
          have HB9 := hid (below_from HBL.out hb)
          clear hb
          go_wp2
          go_roundw
          case rel => exact ⟨j + 1, by go_num, by omega, HB9.out⟩
          case measure => simp [intOf]; omega
      · obtain rfl : j = n := by omega
        go_wp2
        go_ret
        exact ⟨rfl, HBL.out⟩
  · obtain rfl : n = 0 := by omega
    clear h1 h2 he
    go_enter Tryz.func23, Tryz.ntmps23
    go_wp2
    go_loop [5] (fun s => s = .int .i64 0) (fun _ => 0)
    case atStart => rfl
    case round =>
      subst hrel
      go_wp2
      go_ret
      exact ⟨rfl, Below.refl _ _⟩

theorem st_boxes (w : World) (a b c d a' b' c' d' : Value) {W : World} (hW : W = (w.alloc (.cells #[a, b, c, d] 25)).alloc (.cells #[a', b', c', d'] 25)) : StBox W w.heap.size a b c d ∧ StBox W (w.heap.size + 1) a' b' c' d' ∧ Below w.heap.size w W := by
  subst hW
  refine ⟨(Below.heap_alloc _ _ _ (by simp)).trans (heap_alloc_new w _), ?_, ((Below.refl _ _).alloc (Nat.le_refl _) _).alloc (by simp) _⟩
  have := StBox.new (w.alloc (.cells #[a, b, c, d] 25)) a' b' c' d'
  rw [World.size_alloc] at this
  exact this
set_option maxRecDepth 100000 in
set_option maxHeartbeats 1000000 in
theorem SameStates_same (w : World) (c n : Int) (ta : Option Addr) (tn tc : Nat) (l : QL) (ba : Option Addr) (bn bc : Nat) (b : BL) (h : StIn w ta tn tc l ba bn bc b) (ta' : Option Addr) (tc' : Nat) (l' : QL) (ba' : Option Addr) (bc' : Nat) (b' : BL) (h' : StIn w ta' tn tc' l' ba' bn bc' b') (hl : bareQ l = bareQ l') (hb : bareB b = bareB b') :
    Calls Tryz.prog 13 #[.agg #[.int .i64 c, .int .i64 n, .slice ta tn tc, .slice ba bn bc], .agg #[.int .i64 c, .int .i64 n, .slice ta' tn tc', .slice ba' bn bc']] w fun e w' => e = .returned (.bool true) ∧ Below w.heap.size w w' := by
  obtain ⟨S, hS⟩ : ∃ S, w.heap.size = S := ⟨_, rfl⟩
  obtain ⟨W1, hW1⟩ : ∃ W1, W1 = (w.alloc (.cells #[.int .i64 c, .int .i64 n, .slice ta tn tc, .slice ba bn bc] 25)).alloc (.cells #[.int .i64 c, .int .i64 n, .slice ta' tn tc', .slice ba' bn bc'] 25) := ⟨_, rfl⟩
  obtain ⟨x1, x2, hb0⟩ := st_boxes w _ _ _ _ _ _ _ _ hW1
  rw [hS] at x1 x2
  have KT := hid (SameTrees_same W1 ta ta' tn tc tc' l l' (h.1.later hb0) (h'.1.later hb0) hl)
  have KB := hid fun X (hX : Below w.heap.size w X) => SameBooks_same X ba ba' bn bc bc' b b' (h.2.later hX) (h'.2.later hX) hb
  have HB0 := hid hb0
  have HW1 := hid hW1
  have HX1 := hid x1
  have HX2 := hid x2
  have hcc : (c == c) = true := by simp
  have hnn : (n == n) = true := by simp
  obtain ⟨p0, p1, p2, p3⟩ := x1.cells
  obtain ⟨s0, s1, s2, s3⟩ := x2.cells
  clear h h' hb0 x1 x2 hW1 hl hb
  go_enter Tryz.func13, Tryz.ntmps13
  go_wp2_with fail
  rw [← HW1.out]
  refine KT.out.mono ?_
  rintro e w1 ⟨rfl, hb⟩
  have HB1 := hid (below_from HB0.out hb)
  obtain ⟨p0, p1, p2, p3⟩ := (HX1.out.later hb).cells
  obtain ⟨s0, s1, s2, s3⟩ := (HX2.out.later hb).cells
  clear hb
  go_wp2_with fail
  refine (KB.out w1 HB1.out).mono ?_
  rintro e w2 ⟨rfl, hb⟩
  have HB2 := hid (below_from HB1.out hb)
  clear hb
  go_wp2
  go_ret
  exact ⟨rfl, HB2.out⟩
end Go.Proofs.YtecibbokbonmcaeGreat

/- cut.first: the soonest time, from the clock on, at which more is taken of a queue than it has, and the first such queue. -/
namespace Go.Proofs.YtecibbokbonmcaeGreat
open Go.RowKit

/-- is more taken of queue q at t than it has? -/
def overI (l : QL) (b : BL) (t : Int) (q : Nat) : Bool := decide ((valueR (leftT l b q) t).1 < 0)
theorem first1_any (w : World) (T : Nat) (t : Int) (hT : w.cell? ⟨T, 0, none⟩ = some (.int .i64 t)) (fa : Option Addr) (fm fc : Nat) (f : RunL) (hf : RunsIn w fa fm fc f) :
    Calls Tryz.prog 92 #[.slice fa fm fc, .pointer (some ⟨T, 0, none⟩)] w fun e w' => e = .returned (.bool (decide ((valueR f t).1 < 0))) ∧ Below w.heap.size w w' := by
  have K := Value_any w fa fm fc f t hf
  obtain ⟨x, hx⟩ : ∃ x, valueR f t = x := ⟨_, rfl⟩
  rw [hx] at K ⊢
  have HK := hid K
  clear K hx hf
  go_enter Tryz.func92, Tryz.ntmps92
  go_wp2_with fail
  refine HK.out.mono ?_
  rintro e w1 ⟨rfl, hb⟩
  go_wp2
  go_ret
  exact ⟨rfl, hb⟩
/-- the first of n that answers yes, or -1 -/
def IxAns (p : Nat → Bool) (n : Nat) (r : Int) : Prop := (r = -1 ∧ ∀ i, i < n → p i = false) ∨ ∃ k : Nat, k < n ∧ r = k ∧ p k = true ∧ ∀ i, i < k → p i = false
set_option maxRecDepth 100000 in
theorem IndexRs_any (fk : Nat) (caps : Array Value) (p : Nat → Bool) (hk : ∀ (args : Array Value) (w : World), (callFunc fk args).run Tryz.prog w = .ok (.enter fk args) w) (w : World) (G n : Nat) (hn : n ≤ 5) (T : Nat → RunL) (h : TakenIn w G n T)
    (hm : ∀ w', Below w.heap.size w w' → ∀ i, i < n → ∀ (a : Option Addr) (m c : Nat), RunsIn w' a m c (T i) → Calls Tryz.prog fk (#[.slice a m c] ++ caps) w' fun e w'' => e = .returned (.bool (p i)) ∧ Below w'.heap.size w' w'') :
    Calls Tryz.prog 91 #[.slice (some ⟨G, 0, none⟩) n n, .func (.func fk) #[] caps] w fun e w' => ∃ r : Int, e = .returned (.int .i64 r) ∧ IxAns p n r ∧ Below w.heap.size w w' := by
  have HT := hid h
  have HM := hid hm
  clear h hm
  go_enter Tryz.func91, Tryz.ntmps91
  go_wp2
  go_loopw [5, 8] (fun _ st wr => ∃ k : Nat, st = .int .i64 k ∧ k ≤ n ∧ (∀ i, i < k → p i = false) ∧ Below w.heap.size w wr) (fun _ st _ => n - (intOf st).toNat)
  case atStart => exact ⟨0, rfl, by omega, fun i hi => absurd hi (Nat.not_lt_zero i), Below.refl _ _⟩
  case round =>
    obtain ⟨j, rfl, hj, hall, hbel⟩ := hrel
    have HA := hid hall
    have HB := hid hbel
    clear hall hbel
    by_cases hlt : j < n
    · have hlt' : (j : Int) < n := by omega
      obtain ⟨a, m, c, c0, hr⟩ := (HT.out.later HB.out) j hlt
      have HR := hid hr
      clear hr
      cases g : p j with
      | true =>
        go_wp2_with fail
        refine (HM.out wr HB.out j hlt a m c HR.out).mono ?_
        rintro e w1 ⟨rfl, hb1⟩
        rw [g]
        go_wp2
        go_ret
        exact ⟨_, rfl, Or.inr ⟨j, hlt, rfl, g, HA.out⟩, below_from HB.out hb1⟩
      | false =>
        go_wp2_with fail
        refine (HM.out wr HB.out j hlt a m c HR.out).mono ?_
        rintro e w1 ⟨rfl, hb1⟩
        have HB1 := hid hb1
        clear hb1
        rw [g]
        go_wp2
        go_roundw
        case rel => exact ⟨j + 1, by go_num, by omega, fun i hi => by
          by_cases e : i = j
          · subst e; exact g
          · exact HA.out i (by omega), below_from HB.out HB1.out⟩
        case measure => simp [intOf]; omega
    · obtain rfl : j = n := by omega
      go_wp2
      go_ret
      exact ⟨_, rfl, Or.inl ⟨rfl, HA.out⟩, HB.out⟩

def FirstAns (c : Int) (l : QL) (b : BL) (tn : Nat) (t q : Int) (f : Bool) : Prop :=
  (f = false ∧ t = 0 ∧ q = 0 ∧ ∀ u, c ≤ u → u < 48 → ∀ k, k < tn → overI l b u k = false) ∨
  (f = true ∧ c ≤ t ∧ t < 48 ∧ ∃ k : Nat, k < tn ∧ q = k ∧ overI l b t k = true ∧ (∀ i, i < k → overI l b t i = false) ∧ ∀ u, c ≤ u → u < t → ∀ i, i < tn → overI l b u i = false)
/-- first has answered -/
def FirstGives (w w' : World) (e : Ending) (c : Int) (l : QL) (b : BL) (tn : Nat) : Prop := ∃ t q f, e = .returned (.tuple #[.int .i64 t, .int .i64 q, .bool f]) ∧ FirstAns c l b tn t q f ∧ Below w.heap.size w w'
set_option maxRecDepth 100000 in
set_option maxHeartbeats 2000000 in
theorem first_any (w : World) (c n : Int) (ta : Option Addr) (tn tc : Nat) (l : QL) (ba : Option Addr) (bn bc : Nat) (b : BL) (h : StIn w ta tn tc l ba bn bc b) (hc : chkL l b = 0) (k0 : 0 ≤ c) (k1 : c ≤ 48) :
    Calls Tryz.prog 39 #[.agg #[.int .i64 c, .int .i64 n, .slice ta tn tc, .slice ba bn bc]] w fun e w' => FirstGives w w' e c l b tn := by
  obtain ⟨S, hS⟩ : ∃ S, w.heap.size = S := ⟨_, rfl⟩
  obtain ⟨W1, hW1⟩ : ∃ W1, W1 = w.alloc (.cells #[.int .i64 c, .int .i64 n, .slice ta tn tc, .slice ba bn bc] 25) := ⟨_, rfl⟩
  have hb0 : Below w.heap.size w W1 := by rw [hW1]; exact (Below.refl _ _).alloc (Nat.le_refl _) _
  have x1 : StBox W1 S (.int .i64 c) (.int .i64 n) (.slice ta tn tc) (.slice ba bn bc) := by rw [hW1, ← hS]; exact StBox.new w _ _ _ _
  have h5 : tn ≤ 5 := by have := (right_of (no_error hc).1).five; have := h.1.len; omega
  have KL := hid (lefts_any W1 c n ta tn tc l ba bn bc b (h.later hb0) hc)
  have HX1 := hid x1
  have HB0 := hid hb0
  have HW1 := hid hW1
  obtain ⟨c0, c1, c2, c3⟩ := x1.cells
  rw [hW1] at c0 c1 c2 c3
  clear hb0 hW1 h x1 hc
  go_enter Tryz.func39, Tryz.ntmps39
  go_wp2_with fail
  rw [← HW1.out]
  refine KL.out.mono ?_
  rintro e w2 ⟨G, rfl, hG, hT, hb⟩
  have HB2 := hid hb
  have HT2 := hid hT
  have HX2 := hid (HX1.out.later hb)
  clear hT hG hb c0 c1 c2 c3
  obtain ⟨c0, c1, c2, c3⟩ := HX2.out.cells
  go_wp2
  go_loopw [6] (fun p wr => ∃ (P : Nat) (t : Int), p = .pointer (some ⟨P, 0, none⟩) ∧ wr.cell? ⟨P, 0, none⟩ = some (.int .i64 t) ∧ c ≤ t ∧ t ≤ 48 ∧ (∀ u, c ≤ u → u < t → ∀ i, i < tn → overI l b u i = false) ∧ Below w2.heap.size w2 wr) (fun p wr => (48 - intOf (wr.cell? (match p with | .pointer (some a) => a | _ => ⟨0, 0, none⟩) |>.getD undef)).toNat)
  case atStart => exact ⟨w2.heap.size, c, rfl, by go_simp, Int.le_refl _, k1, fun u h1 h2 => by omega, (Below.refl _ _).alloc (Nat.le_refl _) _⟩
  case round =>
    obtain ⟨P, t, rfl, hP, ht0, ht1, hno, hbel⟩ := hrel
    have HNO := hid hno
    have HBE := hid hbel
    have HP := hid hP
    clear hno hbel
    by_cases hlt : t < 48
    · have KI := hid (IndexRs_any 92 #[.pointer (some ⟨P, 0, none⟩)] (overI l b t) (fun args w => by go_simp) wr G tn h5 (leftT l b) (HT2.out.later HBE.out) (fun w' hw' i hi a m k hr => first1_any w' P t (cell_later hw' HP.out) a m k _ hr))
      go_wp2_with fail
      refine KI.out.mono ?_
      rintro e w3 ⟨r, rfl, hr, hb⟩
      have HB3 := hid hb
      have p3 := cell_later hb HP.out
      rcases hr with ⟨rfl, hr⟩ | ⟨k, hk, rfl, hk1, hk2⟩
      · have HR := hid hr
        clear hr hb hP
        go_wp2
        go_roundw
        case rel => exact ⟨w3.heap.size, t + 1, by first | rfl | go_simp, by first | go_simp | (go_simp; go_num), by omega, by omega, fun u h1 h2 i hi => by
          by_cases e : u = t
          · subst e; exact HR.out i hi
          · exact HNO.out u h1 (by omega) i hi, by first | exact (below_from HBE.out HB3.out).alloc (below_from HBE.out HB3.out).size _ | exact ((below_from HBE.out HB3.out).alloc (below_from HBE.out HB3.out).size _).setCell (by simp; exact (below_from HBE.out HB3.out).size) _⟩
        case measure =>
          have hp := HP.out
          simp [hp, intOf]
          omega
      · have HK := hid hk1
        have HK2 := hid hk2
        have hk0 : (0 : Int) ≤ k := by omega
        clear hk1 hk2 hb hP
        go_wp2
        go_ret3
        refine ⟨t, k, true, rfl, Or.inr ⟨rfl, ht0, hlt, k, hk, rfl, HK.out, HK2.out, HNO.out⟩, ?_⟩
        first | exact below_from HB0.out (below_from HB2.out (below_from HBE.out HB3.out)) | (rw [← hS]; exact below_from HB0.out (below_from HB2.out (below_from HBE.out HB3.out)))
    · obtain rfl : t = 48 := by omega
      go_wp2
      go_ret3
      refine ⟨0, 0, false, rfl, Or.inl ⟨rfl, rfl, rfl, HNO.out⟩, ?_⟩
      first | exact below_from HB0.out (below_from HB2.out HBE.out) | (rw [← hS]; exact below_from HB0.out (below_from HB2.out HBE.out))
end Go.Proofs.YtecibbokbonmcaeGreat

/- tree.Under: of each queue, whether one stands in its line. -/
namespace Go.Proofs.YtecibbokbonmcaeGreat
open Go.RowKit Go.Shelf
theorem checkQueue_any (w : World) (a : Option Addr) (n cap : Nat) (l : QL) (q : Int) (h : QsIn w a n cap l) :
    Calls Tryz.prog 147 #[.slice a n cap, .int .i64 q] w fun e w' => e = .returned (.int .i64 (qErr l q)) ∧ Below w.heap.size w w' := by
  have HN := hid h.len
  have hcb := h.capb
  have hle := h.le
  by_cases hc : chkT l = 0
  · by_cases hq : 0 ≤ q ∧ q < l.length
    · rw [qErr_ok hc hq]
      rw [← HN.out] at hq
      obtain ⟨q0, q1⟩ := hq
      go_enter Tryz.func147, Tryz.ntmps147
      go_wp2_with fail
      refine (CheckT_any w a n cap l h).mono ?_
      rintro e w1 ⟨rfl, B1⟩
      rw [hc]
      go_wp2
      go_ret
      exact ⟨rfl, B1⟩
    · rw [qErr_none hc hq]
      rw [← HN.out] at hq
      by_cases g : q < 0
      · go_enter Tryz.func147, Tryz.ntmps147
        go_wp2_with fail
        refine (CheckT_any w a n cap l h).mono ?_
        rintro e w1 ⟨rfl, B1⟩
        rw [hc]
        go_wp2
        go_ret
        exact ⟨rfl, B1⟩
      · have g2 : (n : Int) ≤ q := by omega
        go_enter Tryz.func147, Tryz.ntmps147
        go_wp2_with fail
        refine (CheckT_any w a n cap l h).mono ?_
        rintro e w1 ⟨rfl, B1⟩
        rw [hc]
        go_wp2
        go_ret
        exact ⟨rfl, B1⟩
  · rw [qErr_bad hc]
    have hc' : (chkT l != 0) = true := by simp [hc]
    go_enter Tryz.func147, Tryz.ntmps147
    go_wp2_with fail
    refine (CheckT_any w a n cap l h).mono ?_
    rintro e w1 ⟨rfl, B1⟩
    go_wp2
    go_ret
    exact ⟨rfl, B1⟩

end Go.Proofs.YtecibbokbonmcaeGreat

namespace Go.Proofs.YtecibbokbonmcaeGreat
open Go.RowKit Go.Shelf
attribute [local go_sem] Oper.semAt_some

set_option maxRecDepth 100000 in
set_option maxHeartbeats 2000000 in
theorem Under_ok (w : World) (a : Option Addr) (n cap : Nat) (l : QL) (q : Int) (h : QsIn w a n cap l) (hc : chkT l = 0) (hq0 : 0 ≤ q) (hqn : q < n) :
    Calls Tryz.prog 123 #[.slice a n cap, .int .i64 q] w fun e w' => ∃ a' cap', e = .returned (.tuple #[.slice a' n cap', .int .i64 0]) ∧ BoolsIn w' a' n cap' (underOf l n q) ∧ Below w.heap.size w w' := by
  have HN := hid h.len
  have hcb := h.capb
  have hle := h.le
  have HR := hid (right_of hc)
  have hp : 0 < n := by have := HR.out.pos; have := HN.out; omega
  have h5 : n ≤ 5 := by have := HR.out.five; have := HN.out; omega
  have he : qErr l q = 0 := qErr_ok hc ⟨hq0, by rw [← HN.out]; exact hqn⟩
  obtain ⟨b, off, rfl, hcell⟩ := h.cells hp
  have hblt : b < w.heap.size := block_lt_of_cell (hcell 0 hp).1
  have HC := hid hcell
  have HH := hid h
  clear hcell h
  have hmk := run_make_row' (P := Tryz.prog) 150 4 (.bool false) 1 Tryz.underlying150 Tryz.info4 rfl .i64 .i64 n (by omega) (by omega)
  refine (callsIn_wide (n := 4)).1 ?_
  refine callsIn_of_wp_marks Tryz.func123 rfl trivial ?_ rfl
  simp only [Tryz.ntmps123, List.size_toArray, List.length_cons, List.length_nil, Nat.reduceAdd, Nat.reduceSub, Array.replicate_succ, Array.replicate_zero, List.push_toArray, List.append_toArray, List.nil_append, List.cons_append]
  gi_wp2_with fail
  refine ⟨trivial, (callsIn_wide.2 (checkQueue_any _ _ n cap l q (HH.out.later ((Below.refl _ w).alloc (Nat.le_refl _) _)))).mono ?_⟩
  rintro e w1 ⟨rfl, B1⟩
  rw [he]
  have bQ : Boxed w1 w.heap.size 3 (.int .i64 q) := (B1.block _ (by simp)).trans (Boxed.new w 3 (.int .i64 q))
  have HB1 := hid (below_from ((Below.refl w.heap.size w).alloc (Nat.le_refl _) _) B1)
  have hsz1 : w.heap.size < w1.heap.size := by have := B1.size; simp at this; omega
  have HC1 : Hid (∀ i, i < n → w1.cell? ⟨b, off + i * 3 + 1, none⟩ = some (.int .i64 (qu l i).parent)) := fun i hi => cell_later HB1.out (HC.out i hi).2.1
  clear B1
  gi_wp2_with fail
  clear hmk
  obtain ⟨W1, hW1⟩ : ∃ W1, (w1.alloc (.cells (madeCells #[.bool false] n) 4)).alloc (.cells #[.slice (some ⟨w1.heap.size, 0, none⟩) n n] 150) = W1 := ⟨_, rfl⟩
  have T1 : Hid (W1.rowIs w1.heap.size 4 n (fun _ => .bool false)) := by rw [← hW1]; exact (World.rowIs_made w1 _ n 4).alloc _
  have bU : Hid (Boxed W1 (w1.heap.size + 1) 150 (.slice (some ⟨w1.heap.size, 0, none⟩) n n)) := by
    rw [← hW1]
    have := Boxed.new (w1.alloc (.cells (madeCells #[.bool false] n) 4)) 150 (.slice (some ⟨w1.heap.size, 0, none⟩) n n)
    rwa [World.size_alloc] at this
  have BW1 : Hid (Below w1.heap.size w1 W1) := by rw [← hW1]; exact ((Below.refl _ w1).alloc (Nat.le_refl _) _).alloc (by simp) _
  have hsW1 : W1.heap.size = w1.heap.size + 2 := by rw [← hW1]; simp
  rw [hW1]
  clear hW1
  refine wpIn_loop (UInv w.heap.size w1.heap.size b off n cap l q W1) (UMu n) ?start ?round
  case start => exact ⟨0, _, [], undef, undef, undef, undef, undef, undef, undef, rfl, by omega, ⟨rfl, rfl, rfl, Nat.le_refl _, fun _ _ _ => rfl, T1.out⟩, fun i hi => by omega, fun i _ _ => rfl, fun D hD => by simp at hD, by simp⟩
  case round =>
    rintro a W ⟨j, f, ds, u8, u22, u23, u24, u25, u26, u34, rfl, hj, hA, hlo, hhi, hms, hnd⟩
    have HA := hid hA
    have HLO := hid hlo
    have HHI := hid hhi
    have HMS := hid hms
    have HND := hid hnd
    have hsW : w1.heap.size + 2 ≤ W.heap.size := by have := hA.size; omega
    clear hA hlo hhi hms hnd
    generalize hds : (ds.map fun D => ({ target := .collected D, args := #[] } : Deferred)) = dm
    have HDS := hid hds
    clear hds
    by_cases hlt : j < n
    · have hlt' : (j : Int) < n := by omega
      gi_wp2_with fail
      refine ⟨trivial, (up_in Fence.wide _ trivial rfl _ _ _ ⟨_, _, _, rfl⟩).mono ?_⟩
      rintro e w2 ⟨rfl, rfl⟩
      gi_wp2_with fail
      have bI := Boxed.new W 3 (.int .i64 j)
      have bL := Boxed.new (W.alloc (.cells #[.int .i64 j] 3)) 22 (.slice (some ⟨b, off, none⟩) n cap)
      have bJ := Boxed.new ((W.alloc (.cells #[.int .i64 j] 3)).alloc (.cells #[.slice (some ⟨b, off, none⟩) n cap] 22)) 3 (.int .i64 j)
      rw [World.size_alloc] at bL
      rw [World.size_alloc, World.size_alloc] at bJ
      have hB0 : Below W.heap.size W (((W.alloc (.cells #[.int .i64 j] 3)).alloc (.cells #[.slice (some ⟨b, off, none⟩) n cap] 22)).alloc (.cells #[.int .i64 j] 3)) := (((Below.refl _ W).alloc (Nat.le_refl _) _).alloc (by simp) _).alloc (by simp; omega) _
      have hsz : (((W.alloc (.cells #[.int .i64 j] 3)).alloc (.cells #[.slice (some ⟨b, off, none⟩) n cap] 22)).alloc (.cells #[.int .i64 j] 3)).heap.size = W.heap.size + 3 := by simp
      have bI' := (bI.alloc (.cells #[.slice (some ⟨b, off, none⟩) n cap] 22)).alloc (.cells #[.int .i64 j] 3)
      have bL' := bL.alloc (.cells #[.int .i64 j] 3)
      obtain ⟨W0, hW0⟩ : ∃ W0, ((W.alloc (.cells #[.int .i64 j] 3)).alloc (.cells #[.slice (some ⟨b, off, none⟩) n cap] 22)).alloc (.cells #[.int .i64 j] 3) = W0 := ⟨_, rfl⟩
      rw [hW0] at hsz hB0 bI' bL' bJ ⊢
      clear hW0 bI bL
      have bU0 : Boxed W0 (w1.heap.size + 1) 150 (.slice (some ⟨w1.heap.size, 0, none⟩) n n) := (hB0.block _ (by omega)).trans (HA.out.box bU.out (by omega))
      have bQ1 : Boxed W1 w.heap.size 3 (.int .i64 q) := (BW1.out.block _ hsz1).trans bQ
      have bQ0 : Boxed W0 w.heap.size 3 (.int .i64 q) := (hB0.block _ (by omega)).trans (HA.out.box bQ1 (by omega))
      have row0 : W0.rowIs w1.heap.size 4 n f := HA.out.row.of_block (hB0.block _ (by omega))
      have cells0 : ∀ i, i < n → W0.cell? ⟨b, off + i * 3 + 1, none⟩ = some (.int .i64 (qu l i).parent) := fun i hi => by
        have c1 := cell_later BW1.out (HC1.out i hi)
        have c2 : W.cell? ⟨b, off + i * 3 + 1, none⟩ = some (.int .i64 (qu l i).parent) := (World.cell?_of_block (w := W1) (a := ⟨b, off + i * 3 + 1, none⟩) (HA.out.block b (by omega) (by omega))).trans c1
        exact cell_later hB0 c2
      have HCE := hid cells0
      have HRW := hid row0
      clear cells0 row0 bQ1
      refine wpIn_rangeFunc_ownG (F := Fence.wide) rfl (by omega) (gf := 110) (lb := #[.pointer (some ⟨W.heap.size + 1 + 1, 0, none⟩), .pointer (some ⟨W.heap.size + 1, 0, none⟩)]) rfl trivial (enters_of Tryz.func110 (by kernel_rfl) rfl)
        (up_stops Fence.wide _ trivial rfl (by omega) (W.heap.size + 1 + 1) (W.heap.size + 1) W.heap.size b off n cap l j HR.out HN.out hlt' W0 bJ bL' (by omega) (by omega) HCE.out)
        KeepsL.trans (keepsL_b (by omega)) (Below.refl _ _) (fun _ => rfl)
        (fun pre W' => (∀ x ∈ pre, x ≠ q) ∧ After W0 W' w1.heap.size n f)
        (fun c pre W' => (c = .exit 2 ∧ q ∈ pre) ∧ After W0 W' w1.heap.size n (fun i => if i = j then .bool true else f i))
        (OwnFrom.and (ownFrom_pure _ _) (After.own (Nat.le_refl _) (by omega)))
        (fun c => OwnFrom.and (ownFrom_pure _ _) (After.own (Nat.le_refl _) (by omega)))
        ⟨fun x hx => by simp at hx, ⟨rfl, rfl, rfl, Nat.le_refl _, fun _ _ _ => rfl, HRW.out⟩⟩
        (fun x => { tmps := #[.slice (some ⟨b, off, none⟩) n cap, .int .i64 q, undef, .pointer (some ⟨w.heap.size, 0, none⟩), .slice none 0 0, .int .i64 0, .int .i64 0, .pointer (some ⟨w1.heap.size + 1, 0, none⟩), .pointer (some ⟨W.heap.size, 0, none⟩), .int .i64 x, .slice (some ⟨b, off, none⟩) n cap, .int .i64 q, .int .i64 0, .int .i64 0, .bool false, undef, .slice (some ⟨b, off, none⟩) n cap, .int .i64 n, .slice (some ⟨w1.heap.size, 0, none⟩) n n, .slice (some ⟨b, off, none⟩) n cap, .int .i64 n, .int .i64 j, .bool true, .int .i64 j, .slice (some ⟨b, off, none⟩) n cap, .int .i64 j, .func (.func 110) #[] #[.pointer (some ⟨W.heap.size + 1 + 1, 0, none⟩), .pointer (some ⟨W.heap.size + 1, 0, none⟩)], .int .i64 x, undef, undef, undef, undef, undef, undef, u34, undef], defers := [] }) ?assign ?body ?done ?stop
      case assign =>
        intro l x W K hK
        gi_wp2
        exact hK
      case body =>
        rintro lp pre x W' ⟨hno, hAf⟩ hltp
        have HNO := hid hno
        have cq := (hAf.box bQ0 (by omega)).cell
        have cu := (hAf.box bU0 (by omega)).cell
        have ci := (hAf.box bI' (by omega)).cell
        have cr := hAf.row.cell hlt
        rw [HHI.out j (Nat.le_refl _) hlt] at cr
        have fr := hAf.row.frozen j
        have HAF := hid hAf
        clear hno hAf
        cases g : (x == q) with
        | true =>
          gi_wp2
          exact ⟨(KeepsOthers.setCell _ _ _).from _, ⟨rfl, by rw [eq_of_beq g]; simp⟩, HAF.out.hit j _⟩
        | false =>
          gi_wp2
          exact ⟨KeepsFrom.refl _ _, ⟨Below.refl _ _, fun v hv => hv⟩, fun y hy => by
            rw [List.mem_append] at hy
            rcases hy with hy | hy
            · exact HNO.out y hy
            · simp at hy; subst hy; exact ne_of_beq_false g, HAF.out⟩
      case done =>
        rintro D ys W' hD rfl ⟨hno, hAf⟩ hK
        have HNO := hid hno
        have HAF := hid hAf
        clear hno hAf
        gi_wp2
        rw [← HDS.out]
        exact ⟨under_next hlt HA.out hB0 HAF.out hsW hsW1 HLO.out HHI.out HMS.out HND.out hD hK (by rw [stands_not HNO.out]; exact HHI.out j (Nat.le_refl _) hlt) (fun i _ => rfl), by simp [UMu, intOf]; omega⟩
      case stop =>
        rintro D c pre W' hD hpre ⟨⟨rfl, hin⟩, hAf⟩ hK
        have HIN : Hid (standsIn l (j : Int) q = true) := stands_iff.2 (hpre.subset hin)
        have HAF := hid hAf
        clear hin hAf hpre
        gi_wp2
        rw [← HDS.out]
        exact ⟨under_next hlt HA.out hB0 HAF.out hsW hsW1 HLO.out HHI.out HMS.out HND.out hD hK (by rw [if_pos rfl, HIN.out]) (fun i hi => if_neg hi), by simp [UMu, intOf]; omega⟩
    · obtain rfl : n = j := by omega
      have hbx := (HA.out.box bU.out (by omega)).cell
      gi_wp2
      show LeavesInM _ _ _ _ _ _ dm _ _
      rw [← HDS.out]
      refine leaves_marks (w1.heap.size + 2) ds W hsW HND.out (fun D hD => ⟨(HMS.out D hD).1, (HMS.out D hD).2.2⟩) (fun W' hb => ?_)
      refine ⟨_, results_tmp2 rfl _ _ _, _, _, rfl, bools_row (underOf_len l n q).symm (HA.out.row.of_block (hb.block _ (by omega))) (fun i hi => by rw [HLO.out i hi, underOf_get l n q i hi]) h5, ?_⟩
      exact (below_from HB1.out BW1.out).trans (((HA.out.below (B := w.heap.size) (by omega) (by omega))).trans (hb.mono (by omega)))

end Go.Proofs.YtecibbokbonmcaeGreat
