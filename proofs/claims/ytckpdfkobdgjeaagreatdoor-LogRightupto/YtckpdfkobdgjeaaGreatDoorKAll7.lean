/- Several texts in one: CutA, CutB, CutU, CutC, CutD, CutI. -/
import Derived.Test.YtckpdfkobdgjeaaGreatDoorKAll6
import Derived.BigQuiet
import Derived.Test.YtckpdfkobdgjeaaGreatDoorKAll1
import Derived.RangeFuncNested
import Derived.WalkKit
import Derived.Lib.Walk
import Derived.Lib.AppendZerosOnto
import Derived.Lib.Overlaps
import Derived.Deep.AppendLies
namespace Go.Proofs.YtckpdfkobdgjeaaGreatDoor
open Go.RowKit Go.Shelf
attribute [local go_sem] Oper.semAt_some
set_option maxRecDepth 100000 in
set_option maxHeartbeats 4000000 in
theorem Of_row (w : World) (a : Option Addr) (n cap : Nat) (l : QL) (hl : QsIn w a n cap l) (ba : Option Addr) (bn bc : Nat) (b : BL) (hb : BksIn w ba bn bc b) (hc : chkL l b = 0) :
    Calls Tryz.prog 46 #[.slice a n cap, .slice ba bn bc] w fun e w' => ∃ G, e = .returned (.tuple #[.slice (some ⟨G, 0, none⟩) n n, .int .i64 0]) ∧ w.heap.size ≤ G ∧ (∃ W0 : World, Tk W0 w' G n (takenTo l b b.length)) ∧ Below w.heap.size w w' := by
  have HN := hid hl.len
  have hcb := hl.capb
  have hle := hl.le
  obtain ⟨ht, h12, hbk⟩ := no_error hc
  have HR := hid (right_of ht)
  have hp : 0 < n := by have := HR.out.pos; have := HN.out; omega
  have h5 : n ≤ 5 := by have := HR.out.five; have := HN.out; omega
  obtain ⟨qb, qo, rfl, hcell⟩ := hl.cells hp
  have hblt : qb < w.heap.size := block_lt_of_cell (hcell 0 hp).1
  have HC := hid hcell
  have HL := hid hl
  have HBK := hid hb
  have HBN := hid hb.len
  have hble := hb.le
  have hbcb := hb.capb
  have HOK := hid fun i (hi : i < b.length) => no_error_at ht (hbk i hi)
  have hK := checkL_any w (some ⟨qb, qo, none⟩) n cap l hl ba bn bc b hb
  rw [hc] at hK
  have HK := hid hK
  clear hcell hl hb hc ht h12 hbk hK
  have hmk := run_make_row' (P := Tryz.prog) 97 25 (.slice none 0 0) 24 Tryz.underlying97 Tryz.info47 rfl .i64 .i64 n (by omega) (by omega)
  refine (callsIn_wide (n := 4)).1 ?_
  refine callsIn_of_wp_marks Tryz.func46 rfl trivial ?_ rfl
  simp only [Tryz.ntmps46, List.size_toArray, List.length_cons, List.length_nil, Nat.reduceAdd, Nat.reduceSub, Array.replicate_succ, Array.replicate_zero, List.push_toArray, List.append_toArray, List.nil_append, List.cons_append]
  gi_wp2_with fail
  refine ⟨trivial, (callsIn_wide.2 HK.out).mono ?_⟩
  rintro e w1 ⟨rfl, B1⟩
  have HB1 := hid B1
  have hsz1 : w.heap.size ≤ w1.heap.size := B1.size
  clear B1
  gi_wp2_with fail
  clear hmk
  obtain ⟨W1, hW1⟩ : ∃ W1, (w1.alloc (.cells (madeCells #[.slice none 0 0] n) 25)).alloc (.cells #[.slice (some ⟨w1.heap.size, 0, none⟩) n n] 97) = W1 := ⟨_, rfl⟩
  have T1 : Hid (W1.rowIs w1.heap.size 25 n (fun _ => .slice none 0 0)) := by rw [← hW1]; exact (World.rowIs_made w1 _ n 25).alloc _
  have bU : Hid (Boxed W1 (w1.heap.size + 1) 97 (.slice (some ⟨w1.heap.size, 0, none⟩) n n)) := by
    rw [← hW1]
    have := Boxed.new (w1.alloc (.cells (madeCells #[.slice none 0 0] n) 25)) 97 (.slice (some ⟨w1.heap.size, 0, none⟩) n n)
    rwa [World.size_alloc] at this
  have BW1 : Hid (Below w1.heap.size w1 W1) := by rw [← hW1]; exact ((Below.refl _ w1).alloc (Nat.le_refl _) _).alloc (by simp) _
  have hsW1 : W1.heap.size = w1.heap.size + 2 := by rw [← hW1]; simp
  rw [hW1]
  clear hW1
  have TK1 : Hid (Tk W1 W1 w1.heap.size n (fun _ => [])) := ⟨rfl, rfl, rfl, Nat.le_refl _, fun _ _ _ => rfl, _, T1.out, fun q hq => ⟨none, 0, 0, rfl, runsIn_nil _, fun b off e => by cases e⟩⟩
  obtain ⟨G, hG⟩ : ∃ G, w1.heap.size = G := ⟨_, rfl⟩
  rw [hG] at T1 bU BW1 hsW1 TK1 hsz1
  rw [hG]
  have HG := hid hG
  clear hG
  have cU := bU.out.cell
  gi_wp2_with fail
  gi_loopw [8, 23] (fun _ p wr => ∃ i : Nat, p = .int .i64 i ∧ i ≤ n ∧ Tk W1 wr G n (fun q => if q < i then [(0, 0)] else [])) (fun _ p _ => n - (intOf p).toNat)
  case atStart => exact ⟨0, rfl, by omega, TK1.out.congr fun q hq => by rw [if_neg (by omega)]⟩
  case round =>
    clear cU
    obtain ⟨i, rfl, hi, htk⟩ := hrel
    have HT := hid htk
    have cU := (htk.box bU.out (by omega)).cell
    have hszr : W1.heap.size ≤ wr.heap.size := htk.size
    have hGr : G < wr.heap.size := by omega
    have hG1r : G + 1 < wr.heap.size := by omega
    clear htk
    by_cases hlt : i < n
    · have hlt' : (i : Int) < n := by omega
      obtain ⟨a', m', c', tc, tf, _, _⟩ := HT.out.at hlt
      gi_wp2
      go_roundw
      case rel =>
        have hb2 : Below wr.heap.size wr (wr.alloc (.cells #[.int .i64 0, .int .i64 0] 55)) := (Below.refl _ _).alloc (Nat.le_refl _) _
        have h1 := (HT.out.later hb2).hit i (a := some ⟨wr.heap.size, 0, none⟩) (m := 1) (c := 1) (g := [(0, 0)]) (runs_lit wr [(0, 0)] _ 1 rfl rfl (by simp)) (fun b off e => by cases e; omega)
        rw [World.setCell_alloc_past (hn := hGr)] at h1
        exact ⟨i + 1, by go_num, by omega, h1.congr fun q hq => by
          by_cases e : q = i
          · rw [if_pos e, if_pos (by omega)]
          · rw [if_neg e]
            by_cases e2 : q < i
            · rw [if_pos e2, if_pos (by omega)]
            · rw [if_neg e2, if_neg (by omega)]⟩
      case measure => simp [intOf]; omega
    · obtain rfl : n = i := by omega
      have HT0 : Hid (Tk W1 wr G n (takenTo l b 0)) := HT.out.congr fun q hq => by rw [if_pos hq]; rfl
      gi_wp2_with fail
      refine wpIn_loop (OInv qb qo n cap G ba bn bc l b u8 u25 u26 u27 u28 u29 u30 u31 W1) (OMu bn) ?start ?round
      case start => exact ⟨0, [], undef, undef, undef, undef, undef, undef, undef, undef, undef, undef, rfl, by omega, HT0.out, fun D hD => by simp at hD, by simp⟩
      case round =>
        clear cU HT HT0 hszr hGr hG1r hlt hi
        rintro a W ⟨j, ds, u10, u35, u36, u37, u38, u39, u40, u41, u42, u53, rfl, hj, hA, hms, hnd⟩
        have HA := hid hA
        have HMS := hid hms
        have HND := hid hnd
        have hsW : G + 2 ≤ W.heap.size := by have := hA.size; omega
        have hbw : Below w.heap.size w W := (HB1.out.trans (BW1.out.mono (by have := HG.out; omega))).trans (hA.below (B := w.heap.size) (by omega) (by omega))
        have HBW := hid hbw
        clear hA hms hnd hbw
        generalize hds : (ds.map fun D => ({ target := .collected D, args := #[] } : Deferred)) = dm
        have HDS := hid hds
        clear hds
        by_cases hlt : j < bn
        · have hlt' : (j : Int) < bn := by omega
          obtain ⟨bb, bo, rfl, hcs⟩ := HBK.out.cells (by omega)
          obtain ⟨c0, c1, c2, c3, c4, c5, c6⟩ := hcs j hlt
          have hbbl : bb < w.heap.size := block_lt_of_cell c0
          have hbblW : bb < W.heap.size := by have := HBW.out.size; omega
          replace c0 := cell_later HBW.out c0
          replace c1 := cell_later HBW.out c1
          replace c2 := cell_later HBW.out c2
          replace c3 := cell_later HBW.out c3
          replace c4 := cell_later HBW.out c4
          replace c5 := cell_later HBW.out c5
          replace c6 := cell_later HBW.out c6
          obtain ⟨hm, hq0, hq1⟩ := HOK.out j (by have := HBN.out; omega)
          have hrq := HBK.out.rqs j hlt
          have hbt := HBK.out.bites j hlt
          have HTK : Hid (takenTo l b (j + 1) = addAll (bk b j) (takenTo l b j) (lineOf l (bk b j).rq.queue)) := rfl
          obtain ⟨X, hX⟩ : ∃ X, bk b j = X := ⟨_, rfl⟩
          rw [hX] at c0 c1 c2 c3 c4 c5 c6 hm hq0 hq1 hrq hbt HTK
          have HM := hid hm
          have HRQ := hid hrq
          have HBT := hid hbt
          clear hX hm hrq hbt hcs
          gi_wp2_with fail
          refine ⟨trivial, (up_in Fence.wide _ trivial rfl _ _ _ ⟨_, _, _, rfl⟩).mono ?_⟩
          rintro e w2 ⟨rfl, rfl⟩
          gi_wp2_with fail
          have bJ := Boxed.new ((W.alloc (.cells #[.int .i64 X.id, .int .i64 X.rq.queue, .int .i64 X.rq.fr, .int .i64 X.rq.un, .int .i64 X.rq.kind, .slice X.rq.pa X.rq.pn X.rq.pc, .slice X.ba X.bn X.bc] 60)).alloc (.cells #[.slice (some ⟨qb, qo, none⟩) n cap] 37)) 3 (.int .i64 X.rq.queue)
          have bL := Boxed.new (W.alloc (.cells #[.int .i64 X.id, .int .i64 X.rq.queue, .int .i64 X.rq.fr, .int .i64 X.rq.un, .int .i64 X.rq.kind, .slice X.rq.pa X.rq.pn X.rq.pc, .slice X.ba X.bn X.bc] 60)) 37 (.slice (some ⟨qb, qo, none⟩) n cap)
          rw [World.size_alloc] at bL
          rw [World.size_alloc, World.size_alloc] at bJ
          have bL' := bL.alloc (.cells #[.int .i64 X.rq.queue] 3)
          have hB0 : Below W.heap.size W (((W.alloc (.cells #[.int .i64 X.id, .int .i64 X.rq.queue, .int .i64 X.rq.fr, .int .i64 X.rq.un, .int .i64 X.rq.kind, .slice X.rq.pa X.rq.pn X.rq.pc, .slice X.ba X.bn X.bc] 60)).alloc (.cells #[.slice (some ⟨qb, qo, none⟩) n cap] 37)).alloc (.cells #[.int .i64 X.rq.queue] 3)) := (((Below.refl _ W).alloc (Nat.le_refl _) _).alloc (by simp) _).alloc (by simp; omega) _
          have hBX : Below (W.alloc (.cells #[.int .i64 X.id, .int .i64 X.rq.queue, .int .i64 X.rq.fr, .int .i64 X.rq.un, .int .i64 X.rq.kind, .slice X.rq.pa X.rq.pn X.rq.pc, .slice X.ba X.bn X.bc] 60)).heap.size (W.alloc (.cells #[.int .i64 X.id, .int .i64 X.rq.queue, .int .i64 X.rq.fr, .int .i64 X.rq.un, .int .i64 X.rq.kind, .slice X.rq.pa X.rq.pn X.rq.pc, .slice X.ba X.bn X.bc] 60)) (((W.alloc (.cells #[.int .i64 X.id, .int .i64 X.rq.queue, .int .i64 X.rq.fr, .int .i64 X.rq.un, .int .i64 X.rq.kind, .slice X.rq.pa X.rq.pn X.rq.pc, .slice X.ba X.bn X.bc] 60)).alloc (.cells #[.slice (some ⟨qb, qo, none⟩) n cap] 37)).alloc (.cells #[.int .i64 X.rq.queue] 3)) := ((Below.refl _ _).alloc (Nat.le_refl _) _).alloc (by simp) _
          have hsz : (((W.alloc (.cells #[.int .i64 X.id, .int .i64 X.rq.queue, .int .i64 X.rq.fr, .int .i64 X.rq.un, .int .i64 X.rq.kind, .slice X.rq.pa X.rq.pn X.rq.pc, .slice X.ba X.bn X.bc] 60)).alloc (.cells #[.slice (some ⟨qb, qo, none⟩) n cap] 37)).alloc (.cells #[.int .i64 X.rq.queue] 3)).heap.size = W.heap.size + 3 := by simp
          obtain ⟨W0, hW0⟩ : ∃ W0, ((W.alloc (.cells #[.int .i64 X.id, .int .i64 X.rq.queue, .int .i64 X.rq.fr, .int .i64 X.rq.un, .int .i64 X.rq.kind, .slice X.rq.pa X.rq.pn X.rq.pc, .slice X.ba X.bn X.bc] 60)).alloc (.cells #[.slice (some ⟨qb, qo, none⟩) n cap] 37)).alloc (.cells #[.int .i64 X.rq.queue] 3) = W0 := ⟨_, rfl⟩
          rw [hW0] at hsz hB0 bL' bJ hBX ⊢
          have KB := hid (bk_cells W X)
          have HBX := hid hBX
          clear hW0 bL hBX c0 c1 c2 c3 c4 c5 c6
          have bU0 : Boxed W0 (G + 1) 97 (.slice (some ⟨G, 0, none⟩) n n) := (hB0.block _ (by omega)).trans (HA.out.box bU.out (by omega))
          have tk0 : Tk W0 W0 G n (takenTo l b j) := by
            have h1 := HA.out.later hB0
            exact ⟨rfl, rfl, rfl, Nat.le_refl _, fun _ _ _ => rfl, h1.row⟩
          have cells0 : ∀ i, i < n → W0.cell? ⟨qb, qo + i * 3 + 1, none⟩ = some (.int .i64 (qu l i).parent) := fun i hi =>
            cell_later hB0 (cell_later HBW.out (HC.out i hi).2.1)
          have HCE := hid cells0
          have HTK0 := hid tk0
          have HB0 := hid hB0
          clear cells0 tk0
          refine wpIn_rangeFunc_ownG (F := Fence.wide) rfl (by omega) (gf := 130) (lb := #[.pointer (some ⟨W.heap.size + 1 + 1, 0, none⟩), .pointer (some ⟨W.heap.size + 1, 0, none⟩)]) rfl trivial (enters_of Tryz.func130 (by kernel_rfl) rfl)
            (upQ_stops Fence.wide _ trivial rfl (by omega) (W.heap.size + 1 + 1) (W.heap.size + 1) G qb qo n cap l X.rq.queue HR.out HN.out (by have := HN.out; omega) W0 bJ bL' (by omega) (by omega) HCE.out)
            KeepsL.trans (keepsL_b (by omega)) (Below.refl _ _) (fun _ => rfl)
            (fun pre W' => Tk W0 W' G n (addAll X (takenTo l b j) (pre.map (·.1))))
            (fun _ _ _ => False)
            (Tk.own (Nat.le_refl _) (by omega))
            (fun c s X Y row h _ _ => h)
            HTK0.out
            (fun x => { tmps := #[.slice (some ⟨qb, qo, none⟩) n cap, .slice (some ⟨bb, bo, none⟩) bn bc, undef, undef, .slice none 0 0, .int .i64 0, .int .i64 0, .pointer (some ⟨G + 1, 0, none⟩), u8, undef, .pointer (some ⟨W.heap.size, 0, none⟩), .int .i64 x.1, .slice (some ⟨qb, qo, none⟩) n cap, .slice (some ⟨bb, bo, none⟩) bn bc, .int .i64 0, .int .i64 0, .bool false, undef, .slice (some ⟨qb, qo, none⟩) n cap, .int .i64 n, .slice (some ⟨G, 0, none⟩) n n, .slice (some ⟨G, 0, none⟩) n n, .int .i64 n, .int .i64 n, .bool false, u25, u26, u27, u28, u29, u30, u31, .slice (some ⟨bb, bo, none⟩) bn bc, .int .i64 bn, .int .i64 j, .bool true, .pointer (some ⟨bb, bo + j * 7, none⟩), .agg #[.int .i64 X.id, .int .i64 X.rq.queue, .int .i64 X.rq.fr, .int .i64 X.rq.un, .int .i64 X.rq.kind, .slice X.rq.pa X.rq.pn X.rq.pc, .slice X.ba X.bn X.bc], .slice (some ⟨qb, qo, none⟩) n cap, .pointer (some ⟨W.heap.size, 1, none⟩), .pointer (some ⟨W.heap.size, 1, none⟩), .int .i64 X.rq.queue, .func (.func 130) #[] #[.pointer (some ⟨W.heap.size + 1 + 1, 0, none⟩), .pointer (some ⟨W.heap.size + 1, 0, none⟩)], .int .i64 x.1, undef, undef, undef, undef, undef, undef, undef, undef, undef, u53, undef], defers := [] }) ?assign ?body ?done ?stop
          case assign =>
            intro l x W K hK
            gi_wp2
            exact hK
          case body =>
            rintro lp pre x W' hTk hltp
            obtain ⟨x, hx0, hx1⟩ := x
            obtain ⟨P, rfl⟩ := Int.eq_ofNat_of_zero_le hx0
            have hPn : P < n := by omega
            have hPn' : (P : Int) < n := by omega
            obtain ⟨a1, m1, k1, tc, tf, hr1, hne1⟩ := hTk.at hPn
            have CU := hid (hTk.box bU0 (by omega)).cell
            have TC := hid tc
            have TF := hid tf
            have HR1 := hid hr1
            have hszW' : W0.heap.size ≤ W'.heap.size := hTk.size
            have BC : Hid (∀ Y, Below W'.heap.size W' Y → Y.cell? ⟨W.heap.size, 0, none⟩ = some (.int .i64 X.id) ∧ Y.cell? ⟨W.heap.size, 1, none⟩ = some (.int .i64 X.rq.queue) ∧ Y.cell? ⟨W.heap.size, 2, none⟩ = some (.int .i64 X.rq.fr) ∧ Y.cell? ⟨W.heap.size, 3, none⟩ = some (.int .i64 X.rq.un) ∧ Y.cell? ⟨W.heap.size, 4, none⟩ = some (.int .i64 X.rq.kind) ∧ Y.cell? ⟨W.heap.size, 5, none⟩ = some (.slice X.rq.pa X.rq.pn X.rq.pc) ∧ Y.cell? ⟨W.heap.size, 6, none⟩ = some (.slice X.ba X.bn X.bc)) := fun Y hY => by
              obtain ⟨c0, c1, c2, c3, c4, c5, c6⟩ := KB.out W0 HBX.out
              have e : W'.heap[W.heap.size]? = W0.heap[W.heap.size]? := hTk.block _ (by omega) (by omega)
              exact ⟨cell_later hY ((World.cell?_of_block (w := W0) (a := ⟨W.heap.size, 0, none⟩) e).trans c0), cell_later hY ((World.cell?_of_block (w := W0) (a := ⟨W.heap.size, 1, none⟩) e).trans c1), cell_later hY ((World.cell?_of_block (w := W0) (a := ⟨W.heap.size, 2, none⟩) e).trans c2), cell_later hY ((World.cell?_of_block (w := W0) (a := ⟨W.heap.size, 3, none⟩) e).trans c3), cell_later hY ((World.cell?_of_block (w := W0) (a := ⟨W.heap.size, 4, none⟩) e).trans c4), cell_later hY ((World.cell?_of_block (w := W0) (a := ⟨W.heap.size, 5, none⟩) e).trans c5), cell_later hY ((World.cell?_of_block (w := W0) (a := ⟨W.heap.size, 6, none⟩) e).trans c6)⟩
            have hwW' : Below w.heap.size w W' := (HBW.out.trans (HB0.out.mono (by have := HBW.out.size; omega))).trans (hTk.below (B := w.heap.size) (by omega) (by omega))
            have HTK2 := hid hTk
            obtain ⟨g, hg⟩ : ∃ g, addAll X (takenTo l b j) (pre.map (·.1)) P = g := ⟨_, rfl⟩
            rw [hg] at HR1
            have HGG := hid hg
            have hrqW : RqIn W' X.rq := RqIn.later HRQ.out hwW'
            have hbtW : RunsIn W' X.ba X.bn X.bc X.bs := HBT.out.later hwW'
            have KW := hid fun Y (hY : Below W'.heap.size W' Y) => with_any Y a1 m1 k1 g (HR1.out.later hY) X (RqIn.later hrqW hY) (hbtW.later hY) HM.out
            clear hTk tc tf hr1 hne1 hg hrqW hbtW
            gi_wp2_with fail
            refine wpIn_region_last ((Tryz.f46.body.bind fun c => regOps c 15).getD #[]) (by kernel_rfl) [isV (.slice (some ⟨G, 0, none⟩) n n), isV (.int .i64 P), isV (.slice (some ⟨G, 0, none⟩) n n), isV (.int .i64 P), isV (.pointer (some ⟨G, P, none⟩)), isV (.slice a1 m1 k1), isV (.agg #[.int .i64 X.id, .int .i64 X.rq.queue, .int .i64 X.rq.fr, .int .i64 X.rq.un, .int .i64 X.rq.kind, .slice X.rq.pa X.rq.pn X.rq.pc, .slice X.ba X.bn X.bc]), ⟨fun v Y => ∃ a2 m2 k2, v = .slice a2 m2 k2 ∧ RunsIn Y a2 m2 k2 (withTo g X X.bs.length) ∧ ∀ b off, a2 = some ⟨b, off, none⟩ → W'.heap.size ≤ b, fun _ Y Z ⟨a2, m2, k2, h1, h2, h3⟩ hb => ⟨a2, m2, k2, h1, h2.later hb, h3⟩⟩, isV (.pointer (some ⟨G, P, none⟩)), isV undef] 9 (by kernel_rfl) (by kernel_rfl) (by kernel_rfl) (by kernel_rfl) ?hstep ?hlast
            case hstep =>
              refine AllOps.cons 1 rfl ?_ ?_
              · intro _ T w' hb hl hd
                have h0 : T.getD 7 undef = .pointer (some ⟨G + 1, 0, none⟩) := hl 7 (by kernel_rfl)
                have cU := cell_later hb CU.out
                exact Or.inl ⟨.slice (some ⟨G, 0, none⟩) n n, w', by go_simp, rfl, Below.refl _ _⟩
              refine AllOps.cons 2 rfl ?_ ?_
              · intro _ T w' hb hl hd
                have h0 : T.getD 11 undef = .int .i64 P := hl 11 (by kernel_rfl)
                exact Or.inl ⟨.int .i64 P, w', by go_simp, rfl, Below.refl _ _⟩
              refine AllOps.cons 3 rfl ?_ ?_
              · intro _ T w' hb hl hd
                have h0 : T.getD 7 undef = .pointer (some ⟨G + 1, 0, none⟩) := hl 7 (by kernel_rfl)
                have cU := cell_later hb CU.out
                exact Or.inl ⟨.slice (some ⟨G, 0, none⟩) n n, w', by go_simp, rfl, Below.refl _ _⟩
              refine AllOps.cons 4 rfl ?_ ?_
              · intro _ T w' hb hl hd
                have h0 : T.getD 11 undef = .int .i64 P := hl 11 (by kernel_rfl)
                exact Or.inl ⟨.int .i64 P, w', by go_simp, rfl, Below.refl _ _⟩
              refine AllOps.cons 5 rfl ?_ ?_
              · intro _ T w' hb hl hd
                have h0 : T.getD 46 undef = .slice (some ⟨G, 0, none⟩) n n := hd 2 46 (by kernel_rfl)
                have h1 : T.getD 47 undef = .int .i64 P := hd 3 47 (by kernel_rfl)
                exact Or.inl ⟨.pointer (some ⟨G, P, none⟩), w', by go_simp, rfl, Below.refl _ _⟩
              refine AllOps.cons 6 rfl ?_ ?_
              · intro _ T w' hb hl hd
                have h0 : T.getD 48 undef = .pointer (some ⟨G, P, none⟩) := hd 4 48 (by kernel_rfl)
                have tc := cell_later hb TC.out
                exact Or.inl ⟨.slice a1 m1 k1, w', by go_simp, rfl, Below.refl _ _⟩
              refine AllOps.cons 7 rfl ?_ ?_
              · intro _ T w' hb hl hd
                have h0 : T.getD 10 undef = .pointer (some ⟨W.heap.size, 0, none⟩) := hl 10 (by kernel_rfl)
                obtain ⟨c0, c1, c2, c3, c4, c5, c6⟩ := BC.out w' hb
                exact Or.inl ⟨.agg #[.int .i64 X.id, .int .i64 X.rq.queue, .int .i64 X.rq.fr, .int .i64 X.rq.un, .int .i64 X.rq.kind, .slice X.rq.pa X.rq.pn X.rq.pc, .slice X.ba X.bn X.bc], w', by go_simp, rfl, Below.refl _ _⟩
              refine AllOps.cons 8 rfl ?_ ?_
              · intro _ T w' hb hl hd
                have h0 : T.getD 49 undef = .slice a1 m1 k1 := hd 5 49 (by kernel_rfl)
                have h1 : T.getD 50 undef = .agg #[.int .i64 X.id, .int .i64 X.rq.queue, .int .i64 X.rq.fr, .int .i64 X.rq.un, .int .i64 X.rq.kind, .slice X.rq.pa X.rq.pn X.rq.pc, .slice X.ba X.bn X.bc] := hd 6 50 (by kernel_rfl)
                refine Or.inr ⟨82, #[.slice a1 m1 k1, .agg #[.int .i64 X.id, .int .i64 X.rq.queue, .int .i64 X.rq.fr, .int .i64 X.rq.un, .int .i64 X.rq.kind, .slice X.rq.pa X.rq.pn X.rq.pc, .slice X.ba X.bn X.bc]], by go_simp, ?_⟩
                refine (KW.out w' hb).mono ?_
                rintro e w'' ⟨a2, m2, k2, rfl, hr, hbb, hnw⟩
                exact ⟨_, rfl, ⟨a2, m2, k2, rfl, hr, fun b off e => by have := hnw b off e; have := hb.size; omega⟩, hbb⟩
              refine AllOps.cons 9 rfl ?_ ?_
              · intro _ T w' hb hl hd
                have h0 : T.getD 44 undef = .slice (some ⟨G, 0, none⟩) n n := hd 0 44 (by kernel_rfl)
                have h1 : T.getD 45 undef = .int .i64 P := hd 1 45 (by kernel_rfl)
                exact Or.inl ⟨.pointer (some ⟨G, P, none⟩), w', by go_simp, rfl, Below.refl _ _⟩
              exact ⟨fun h => absurd rfl h, trivial⟩
            case hlast =>
              intro o ho T w' hb hs hl hd
              have hoo : ((Tryz.f46.body.bind fun c => regOps c 15).getD #[])[9]? = some { dst := none, op := Op.store 25 (Operand.tmp 52) (Operand.tmp 51), type := 0, pos := "load.go:26", after := #[{ on := 8, ground := Ground.data }, { on := 7, ground := Ground.data }, { on := 7, ground := Ground.chain }, { on := 0, ground := Ground.phase }, { on := 1, ground := Ground.phase }, { on := 2, ground := Ground.phase }, { on := 3, ground := Ground.phase }, { on := 4, ground := Ground.phase }, { on := 5, ground := Ground.phase }, { on := 6, ground := Ground.phase }, { on := 7, ground := Ground.phase }], guard := none } := by kernel_rfl
              rw [hoo] at ho
              cases ho
              clear hoo
              have h0 : T.getD 52 undef = .pointer (some ⟨G, P, none⟩) := hd 8 52 (by decide) (by kernel_rfl)
              obtain ⟨a2, m2, k2, h1, hr2, hn2⟩ := hd 7 51 (by decide) (by kernel_rfl)
              have tc := cell_later hb TC.out
              have tf := (World.frozen?_of_block (w := W') (a := ⟨G, P, none⟩) (hb.block G (by omega))).trans TF.out
              refine ⟨w'.setCell ⟨G, P, none⟩ (.slice a2 m2 k2), by go_simp, ?_⟩
              refine ⟨?_, ?_, ?_⟩
              · exact (KeepsOthers.trans (⟨hb.size, fun k o hk _ => (hb.block k (Array.getElem?_eq_some_iff.1 hk).1).trans hk⟩ : KeepsOthers W' w') (KeepsOthers.setCell _ _ _)).from _
              · exact ⟨(show Below G W' w' from hb.mono (by omega)).setCell (Nat.le_refl _) _, fun v hv => (Below.heap_setCell _ _ _ _ (by simp only; omega)).trans ((hb.block _ hv.lt).trans hv)⟩
              · show Tk W0 _ G n (addAll X (takenTo l b j) (List.map (fun x : QN n => x.1) (pre ++ [_])))
                rw [List.map_append, List.map_cons, List.map_nil, addAll_more]
                have := (HTK2.out.later hb).hit P hr2 (fun b off e => by have := hn2 b off e; omega)
                exact this.congr fun q hq => by
                  show (if q = P then withTo g X X.bs.length else _) = _
                  rw [Int.toNat_natCast, HGG.out]
          case done =>
            rintro D ys W' hD hys hTk hK
            rw [hys] at hTk
            have HTK3 : Hid (Tk W0 W' G n (takenTo l b (j + 1))) := by show Tk W0 W' G n (takenTo l b (j + 1)); rw [HTK.out]; exact hTk
            clear hTk hys
            gi_wp2
            rw [← HDS.out]
            exact ⟨of_next hlt HA.out HB0.out HTK3.out hsW hsW1 HMS.out HND.out hD hK, by simp [OMu, intOf]; omega⟩
          case stop =>
            rintro D c pre W' hD hpre h hK
            cases h
        · obtain rfl : bn = j := by omega
          have hbx := (HA.out.box bU.out (by omega)).cell
          gi_wp2
          show LeavesInM _ _ _ _ _ _ dm _ _
          rw [← HDS.out]
          refine leaves_marksC (G + 2) ds W hsW HND.out (fun D hD => ⟨(HMS.out D hD).1, (HMS.out D hD).2.2⟩) (fun W' hb hcl => ?_)
          have htk' := HA.out.marks hb hcl (by omega)
          refine ⟨_, results_tmp2 rfl _ _ _, G, rfl, hsz1, ⟨_, by rw [← HBN.out]; exact htk'⟩, ?_⟩
          · exact HBW.out.trans (hb.mono (by omega))
end Go.Proofs.YtckpdfkobdgjeaaGreatDoor
namespace Go.Proofs.YtckpdfkobdgjeaaGreatDoor
open Go.RowKit Go.Shelf
theorem below_drewN (w : World) (d : Nat) : Below w.heap.size w (w.drewN d) := ⟨rfl, rfl, rfl, Nat.le_refl _, fun _ _ => rfl⟩
theorem Minus_new (w : World) (a1 a2 : Option Addr) (n1 n2 cap1 cap2 : Nat) (l1 l2 : RunL) (h1 : RunsIn w a1 n1 cap1 l1) (h2 : RunsIn w a2 n2 cap2 l2) :
   Calls Tryz.prog 137 #[.slice a1 n1 cap1, .slice a2 n2 cap2] w fun e w' => GivesN w w' e (joinR (fun x y => x - y) l1 l2) := by
  cases hf : (fine l1 && fine l2) with
  | false =>
    have hr : joinR (fun x y => x - y) l1 l2 = ([], 1) := by simp only [joinR, hf]; rfl
    rw [hr]
    have hk : (if (fine l1 && fine l2) = true then (0 : Int) else 1) = 1 := by rw [hf]; rfl
    go_enter Tryz.func137, Tryz.ntmps137
    go_wp2_with fail
    refine (checkBoth_any _ _ _ _ _ _ _ l1 l2 h1 h2).mono ?_
    rintro e w1 ⟨rfl, hb⟩
    rw [hk]
    go_wp2
    go_ret2
    exact givesN_err hb
  | true =>
    have hr : joinR (fun x y => x - y) l1 l2 = tell (jv (fun x y => x - y) l1 l2) := by simp only [joinR, hf]; rfl
    rw [hr]
    have hk : (if (fine l1 && fine l2) = true then (0 : Int) else 1) = 0 := by rw [hf]; rfl
    rw [Bool.and_eq_true] at hf
    have F1 := hid (fine_iff.1 hf.1)
    have F2 := hid (fine_iff.1 hf.2)
    obtain ⟨r, hr2⟩ : ∃ r, r = tell (jv (fun x y => x - y) l1 l2) := ⟨_, rfl⟩
    rw [← hr2]
    have HR := hid hr2
    clear hr2 hr hf
    go_enter Tryz.func137, Tryz.ntmps137
    go_wp2_with fail
    refine (checkBoth_any _ _ _ _ _ _ _ l1 l2 h1 h2).mono ?_
    rintro e w1 ⟨rfl, hb⟩
    rw [hk]
    go_wp2_with fail
    have hl := lay_givesN 170 _ joins48 w1 a1 a2 n1 cap1 n2 cap2 l1 l2 (h1.later hb) (h2.later hb) F1.out.rises F2.out.rises (fun i hi => F1.out.bdd (by rw [← h1.len]; exact hi)) (fun i hi => F2.out.bdd (by rw [← h2.len]; exact hi))
    rw [← HR.out] at hl
    refine hl.mono ?_
    clear hl
    rintro e w2 ⟨a, n, cap, rfl, hr, hb2, hnw⟩
    go_wp2
    go_ret2
    exact ⟨a, n, cap, rfl, hr, below_from hb hb2, fun b off e => Nat.le_trans hb.size (hnw b off e)⟩
set_option maxHeartbeats 400000 in
theorem IndexBs_in (fk : Nat) (caps : Array Value) (p : Nat → Bool) (hk : ∀ (args : Array Value) (w : World), (callFunc fk args).run Tryz.prog w = .ok (.enter fk args) w) (w : World) (b off n cap : Nat) (l : RunL) (h : RunsIn w (some ⟨b, off, none⟩) n cap l) (hp : 0 < n)
    (hm : ∀ w', Below w.heap.size w w' → ∀ i, i < n → Calls Tryz.prog fk (#[.agg #[.int .i64 (rAt l i), .int .i64 (rN l i)]] ++ caps) w' fun e w'' => e = .returned (.bool (!p i)) ∧ Below w'.heap.size w' w'') :
    Calls Tryz.prog 168 #[.slice (some ⟨b, off, none⟩) n cap, .func (.func fk) #[] caps] w fun e w' => ∃ r : Int, e = .returned (.int .i64 r) ∧ (decide (0 ≤ r)) = (!allN p n) ∧ Below w.heap.size w w' := by
  have HN := hid h.len
  have hle := h.le
  have hbd := h.capb
  obtain ⟨b', off', e, hc⟩ := h.cells hp
  cases e
  have HC := hid hc
  have HM := hid hm
  clear hc hm
  go_enter Tryz.func168, Tryz.ntmps168
  go_wp2
  go_loopw [5, 8] (fun _ st wr => ∃ k : Nat, st = .int .i64 k ∧ k ≤ n ∧ allN p k = true ∧ Below w.heap.size w wr) (fun _ st _ => n - (intOf st).toNat)
  case atStart => exact ⟨0, rfl, by omega, rfl, Below.refl _ _⟩
  case round =>
    obtain ⟨j, rfl, hj, hall, hbel⟩ := hrel
    have HA := hid hall
    have HB := hid hbel
    clear hall hbel
    by_cases hlt : j < n
    · have hlt' : (j : Int) < n := by omega
      have c0 := cell_later HB.out (HC.out j hlt).1
      have c1 := cell_later HB.out (HC.out j hlt).2
      cases g : p j with
      | false =>
        go_wp2_with fail
        refine (HM.out wr HB.out j hlt).mono ?_
        rintro e w1 ⟨rfl, hb1⟩
        rw [g]
        go_wp2
        go_ret
        exact ⟨_, rfl, by rw [allN_false (p := p) g n hlt]; simp, below_from HB.out hb1⟩
      | true =>
        go_wp2_with fail
        refine (HM.out wr HB.out j hlt).mono ?_
        rintro e w1 ⟨rfl, hb1⟩
        have HB1 := hid hb1
        clear hb1
        rw [g]
        go_wp2
        go_roundw
        case rel => exact ⟨j + 1, by go_num, by omega, by rw [allN, HA.out, g]; rfl, below_from HB.out HB1.out⟩
        case measure => simp [intOf]; omega
    · obtain rfl : j = n := by omega
      go_wp2
      go_ret
      exact ⟨_, rfl, by rw [HA.out]; rfl, HB.out⟩
theorem ContainsBs_in (fk : Nat) (caps : Array Value) (p : Nat → Bool) (hk : ∀ (args : Array Value) (w : World), (callFunc fk args).run Tryz.prog w = .ok (.enter fk args) w) (w : World) (a : Option Addr) (n cap : Nat) (l : RunL) (h : RunsIn w a n cap l) (hp : 0 < n)
    (hm : ∀ w', Below w.heap.size w w' → ∀ i, i < n → Calls Tryz.prog fk (#[.agg #[.int .i64 (rAt l i), .int .i64 (rN l i)]] ++ caps) w' fun e w'' => e = .returned (.bool (!p i)) ∧ Below w'.heap.size w' w'') :
    Calls Tryz.prog 133 #[.slice a n cap, .func (.func fk) #[] caps] w fun e w' => e = .returned (.bool (!allN p n)) ∧ Below w.heap.size w w' := by
  obtain ⟨b, off, rfl, _⟩ := h.cells hp
  have HM := hid hm
  clear hm
  go_enter Tryz.func133, Tryz.ntmps133
  go_wp2_with fail
  refine (IndexBs_in fk caps p hk w b off n cap l h hp HM.out).mono ?_
  rintro e w1 ⟨r, rfl, hr, hb⟩
  have HR := hid hr
  clear hr
  go_wp2
  go_ret
  exact ⟨ret_bool HR.out, hb⟩
def takesI (X : Bk) (t : Int) (i : Nat) : Bool := decide (rN X.bs i ≤ t) && decide (t < rN X.bs i + lenOf X.rq X.bs i)
def takesB (X : Bk) (t : Int) : Bool := !allN (fun i => !takesI X t i) X.bs.length
set_option maxRecDepth 100000 in
set_option maxHeartbeats 1000000 in
theorem takes1_any (w : World) (X : Bk) (T B k : Nat) (t y : Int) (hT : w.cell? ⟨T, 0, none⟩ = some (.int .i64 t)) (hB : BkBox w B X) (hr : RqIn w X.rq) (hk : k < X.rq.ps.length) (y0 : 0 ≤ y) (y1 : y ≤ 48) (z0 : 0 ≤ rAt X.rq.ps k) (z1 : rAt X.rq.ps k ≤ 48) :
    Calls Tryz.prog 191 #[.agg #[.int .i64 (k : Int), .int .i64 y], .pointer (some ⟨T, 0, none⟩), .pointer (some ⟨B, 0, none⟩)] w fun e w' => e = .returned (.bool (decide (y ≤ t) && decide (t < y + rAt X.rq.ps k))) ∧ Below w.heap.size w w' := by
  obtain ⟨S, hS⟩ : ∃ S, w.heap.size = S := ⟨_, rfl⟩
  obtain ⟨W1, hW1⟩ : ∃ W1, W1 = w.alloc (.cells #[.int .i64 (k : Int), .int .i64 y] 62) := ⟨_, rfl⟩
  have hb0 : Below w.heap.size w W1 := by rw [hW1]; exact (Below.refl _ _).alloc (Nat.le_refl _) _
  have hr' : RunsIn w X.rq.pa X.rq.pn X.rq.pc X.rq.ps := hr
  have hpl := hr'.len
  have hple := hr'.le
  have hpcb := hr'.capb
  have hkn : k < X.rq.pn := by omega
  have hkn' : (k : Int) < X.rq.pn := by omega
  obtain ⟨pb, po, hpa, hcs⟩ := hr'.cells (by omega)
  have q0 := cell_later hb0 (hcs k hkn).1
  have t0 := cell_later hb0 hT
  obtain ⟨u0, u1, u2, u3, u4, u5, u6⟩ := (hB.later hb0).cells
  rw [hpa] at u5
  have HB0 := hid hb0
  have HW1 := hid hW1
  rw [hW1] at q0 t0 u0 u1 u2 u3 u4 u5 u6
  clear hb0 hW1 hr hr' hcs hB hT hpl hpa
  obtain ⟨z, hz⟩ : ∃ z, rAt X.rq.ps k = z := ⟨_, rfl⟩
  rw [hz] at q0 z0 z1 ⊢
  clear hz
  by_cases g : y ≤ t
  · have hd : decide (y ≤ t) = true := by simp [g]
    go_enter Tryz.func191, Tryz.ntmps191
    go_wp2
    go_quiet (fail)
    go_wp2
    go_ret
    rw [← HW1.out]
    exact ⟨by rw [hd]; rfl, below_from HB0.out (below_drewN W1 _)⟩
  · have hd : decide (y ≤ t) = false := by simp [g]
    go_enter Tryz.func191, Tryz.ntmps191
    go_wp2
    go_quiet (fail)
    go_wp2
    go_ret
    rw [← HW1.out]
    exact ⟨by rw [hd]; rfl, below_from HB0.out (below_drewN W1 _)⟩
set_option maxRecDepth 100000 in
set_option maxHeartbeats 1000000 in
theorem takes_any (w : World) (X : Bk) (hr : RqIn w X.rq) (hb : RunsIn w X.ba X.bn X.bc X.bs) (hm : meets X.rq X.bs = true) (t : Int) :
    Calls Tryz.prog 179 #[.agg #[.int .i64 X.id, .int .i64 X.rq.queue, .int .i64 X.rq.fr, .int .i64 X.rq.un, .int .i64 X.rq.kind, .slice X.rq.pa X.rq.pn X.rq.pc, .slice X.ba X.bn X.bc], .int .i64 t] w fun e w' => e = .returned (.bool (takesB X t)) ∧ Below w.heap.size w w' := by
  obtain ⟨S, hS⟩ : ∃ S, w.heap.size = S := ⟨_, rfl⟩
  obtain ⟨W1, hW1⟩ : ∃ W1, W1 = (w.alloc (.cells #[.int .i64 X.id, .int .i64 X.rq.queue, .int .i64 X.rq.fr, .int .i64 X.rq.un, .int .i64 X.rq.kind, .slice X.rq.pa X.rq.pn X.rq.pc, .slice X.ba X.bn X.bc] 60)).alloc (.cells #[.int .i64 t] 3) := ⟨_, rfl⟩
  have hb0 : Below w.heap.size w W1 := by rw [hW1]; exact ((Below.refl _ _).alloc (Nat.le_refl _) _).alloc (by simp) _
  have hB : BkBox W1 S X := by rw [hW1, ← hS]; exact (Below.heap_alloc _ _ _ (by simp)).trans (heap_alloc_new w _)
  have hT : W1.cell? ⟨S + 1, 0, none⟩ = some (.int .i64 t) := by rw [hW1, ← hS]; go_simp
  have hbn := hb.len
  obtain ⟨m1, m2, m3⟩ := meets_split.1 hm
  have m4 := chkR_zero.1 m1
  have hps := m4.2.1
  simp [wth] at hps
  have hn0 : 0 < X.bn := by
    have : 0 < wantedN X.rq := by unfold wantedN; split <;> omega
    omega
  have hbd := meets_bounds hm
  have K := ContainsBs_in 191 #[.pointer (some ⟨S + 1, 0, none⟩), .pointer (some ⟨S, 0, none⟩)] (fun i => !takesI X t i) (fun args w => by go_simp) W1 X.ba X.bn X.bc X.bs (hb.later hb0) hn0 (fun w' hw' i hi => by
    have hbo := m3 i (by omega)
    have hp1 := (biteOk_at hbo).1
    have hp2 := inTime_at (biteOk_at hbo).2.1
    obtain ⟨k, hk⟩ : ∃ k : Nat, rAt X.bs i = k := ⟨(rAt X.bs i).toNat, by have := isPiece_at hp1; omega⟩
    have hk2 : k < X.rq.ps.length := by have := isPiece_at hp1; omega
    have hl := lenOf_at m1 hp1
    have hz : lenOf X.rq X.bs i = rAt X.rq.ps k := by unfold lenOf; rw [hk, Int.toNat_natCast]
    have hsp := m4.2.2
    simp only [rangeOk, Bool.and_eq_true] at hsp
    have hsp1 := hsp.1
    simp [spn] at hsp1
    have K1 := takes1_any w' X (S + 1) S k t (rN X.bs i) (cell_later hw' hT) (hB.later hw') (RqIn.later (RqIn.later hr hb0) hw') hk2 (by omega) (by omega) (by omega) (by omega)
    rw [hk]
    refine K1.mono ?_
    rintro e w'' ⟨rfl, hbb⟩
    refine ⟨?_, hbb⟩
    rw [Bool.not_not]
    unfold takesI
    rw [hz])
  have e1 : takesB X t = !allN (fun i => !takesI X t i) X.bn := by unfold takesB; rw [hbn]
  rw [e1]
  have HK := hid K
  have HB0 := hid hb0
  have HW1 := hid hW1
  obtain ⟨u0, u1, u2, u3, u4, u5, u6⟩ := hB.cells
  rw [hW1] at u0 u1 u2 u3 u4 u5 u6
  obtain ⟨A, hA⟩ : ∃ A, (!allN (fun i => !takesI X t i) X.bn) = A := ⟨_, rfl⟩
  rw [hA] at HK ⊢
  clear K e1 hA hB hT hb0 hW1 hr hb hm hbn m1 m2 m3 m4 hps hbd hn0
  go_enter Tryz.func179, Tryz.ntmps179
  go_wp2_with fail
  rw [← HW1.out]
  refine HK.out.mono ?_
  rintro e w1 ⟨rfl, hb⟩
  have HB1 := hid (below_from HB0.out hb)
  clear hb
  go_wp2
  go_ret
  exact ⟨rfl, by first | exact HB1.out | (rw [← hS]; exact HB1.out)⟩
def leftT (l : QL) (b : BL) (q : Nat) : RunL := (joinR (fun x y => x - y) (qu l q).runs (takenTo l b b.length q)).1
def mixT (l : QL) (b : BL) (j q : Nat) : RunL := if q < j then leftT l b q else takenTo l b b.length q
set_option maxRecDepth 100000 in
set_option maxHeartbeats 2000000 in
theorem lefts_any (w : World) (c n : Int) (ta : Option Addr) (tn tc : Nat) (l : QL) (ba : Option Addr) (bn bc : Nat) (b : BL) (h : StIn w ta tn tc l ba bn bc b) (hc : chkL l b = 0) :
    Calls Tryz.prog 173 #[.agg #[.int .i64 c, .int .i64 n, .slice ta tn tc, .slice ba bn bc]] w fun e w' => ∃ G, e = .returned (.slice (some ⟨G, 0, none⟩) tn tn) ∧ w.heap.size ≤ G ∧ TakenIn w' G tn (leftT l b) ∧ Below w.heap.size w w' := by
  obtain ⟨S, hS⟩ : ∃ S, w.heap.size = S := ⟨_, rfl⟩
  obtain ⟨W1, hW1⟩ : ∃ W1, W1 = w.alloc (.cells #[.int .i64 c, .int .i64 n, .slice ta tn tc, .slice ba bn bc] 40) := ⟨_, rfl⟩
  have hb0 : Below w.heap.size w W1 := by rw [hW1]; exact (Below.refl _ _).alloc (Nat.le_refl _) _
  have x1 : StBox W1 S (.int .i64 c) (.int .i64 n) (.slice ta tn tc) (.slice ba bn bc) := by rw [hW1, ← hS]; exact StBox.new w _ _ _ _
  have HR := right_of (no_error hc).1
  have hp : 0 < tn := by have := HR.pos; have := h.1.len; omega
  have h5 : tn ≤ 5 := by have := HR.five; have := h.1.len; omega
  obtain ⟨qb, qo, rfl, hqc⟩ := (h.1.later hb0).cells hp
  have KO := hid (Of_row W1 _ tn tc l (h.1.later hb0) ba bn bc b (h.2.later hb0) hc)
  have HQ := hid (h.1.later hb0)
  have HQC := hid hqc
  have HX1 := hid x1
  have HB0 := hid hb0
  have HW1 := hid hW1
  have htle := h.1.le
  have htcb := h.1.capb
  obtain ⟨c0, c1, c2, c3⟩ := x1.cells
  rw [hW1] at c0 c1 c2 c3
  clear hb0 hW1 h x1 hqc HR
  go_enter Tryz.func173, Tryz.ntmps173
  go_wp2_with fail
  rw [← HW1.out]
  refine KO.out.mono ?_
  rintro e w2 ⟨G, rfl, hG, ⟨W0, hTk⟩, hb⟩
  have HB2 := hid hb
  have hT2 : Tk w2 w2 G tn (mixT l b 0) := Tk.congr ⟨rfl, rfl, rfl, Nat.le_refl _, fun _ _ _ => rfl, hTk.row⟩ (fun q _ => by unfold mixT; rw [if_neg (Nat.not_lt_zero q)])
  have HT2 := hid hT2
  have HG := hid hG
  clear hTk hb hT2 hG c0 c1 c2 c3
  go_wp2_with fail
  go_loopw [17] (fun p wr => ∃ j : Nat, p = .int .i64 j ∧ j ≤ tn ∧ Tk w2 wr G tn (mixT l b j) ∧ Below W1.heap.size W1 wr) (fun p _ => tn - (intOf p).toNat)
  case atStart => exact ⟨0, rfl, by omega, HT2.out, HB2.out⟩
  case round =>
    obtain ⟨j, rfl, hj, hTk, hbel⟩ := hrel
    have HTK := hid hTk
    have HBE := hid hbel
    clear hTk hbel
    by_cases hlt : j < tn
    · have hlt' : (j : Int) < tn := by omega
      obtain ⟨ga, gm, gc, gcell, gf, gr, gne⟩ := HTK.out.at hlt
      have e0 : mixT l b j j = takenTo l b b.length j := by unfold mixT; rw [if_neg (Nat.lt_irrefl j)]
      rw [e0] at gr
      obtain ⟨c0, c1, c2, c3⟩ := (HX1.out.later HBE.out).cells
      have s2 := cell_later HBE.out (HQC.out j hlt).2.2
      have KM := hid (Minus_new wr _ _ _ _ _ _ _ _ ((HQ.out.later HBE.out).caps j hlt) gr)
      have hjl : ((j : Nat) : Int).toNat = j := rfl
      clear e0 gne gf gr
      go_wp2_with fail
      refine KM.out.mono ?_
      rintro e w3 ⟨a3, n3, k3, rfl, hr3, hb3, hnew⟩
      obtain ⟨ga', gm', gc', gcell', gf', _, _⟩ := (HTK.out.later hb3).at hlt
      have HT3 : Hid (Tk w2 (w3.setCell ⟨G, j, none⟩ (.slice a3 n3 k3)) G tn (mixT l b (j + 1))) := by
        have := (HTK.out.later hb3).hit j hr3 (fun b off e => by
          have h1 := hnew b off e
          have h2 := block_lt_of_cell gcell
          intro e2
          rw [e2] at h1
          exact absurd h2 (Nat.not_lt.2 h1))
        refine hid (this.congr fun q hq => ?_)
        unfold mixT
        by_cases e : q = j
        · subst e
          rw [if_pos rfl, if_pos (Nat.lt_succ_self q)]
          rfl
        · rw [if_neg e]
          by_cases e2 : q < j
          · rw [if_pos e2, if_pos (by omega)]
          · rw [if_neg e2, if_neg (by omega)]
      have HB4 : Hid (Below W1.heap.size W1 (w3.setCell ⟨G, j, none⟩ (.slice a3 n3 k3))) := hid ((below_from HBE.out hb3).setCell (p := ⟨G, j, none⟩) HG.out _)
      clear hb3 hnew hr3 gcell c0 c1 c2 c3 s2
      go_wp2
      go_roundw
      case rel => exact ⟨j + 1, by go_num, by omega, HT3.out, HB4.out⟩
      case measure => simp [intOf]; omega
    · obtain rfl : j = tn := by omega
      go_wp2
      go_ret
      refine ⟨G, rfl, ?_, fun q hq => ?_, ?_⟩
      · have h1 := HG.out
        have h2 := HB0.out.size
        omega
      · obtain ⟨ga, gm, gc, gcell, _, gr, _⟩ := HTK.out.at hq
        refine ⟨ga, gm, gc, gcell, ?_⟩
        have e0 : mixT l b j q = leftT l b q := by unfold mixT; rw [if_pos hq]
        rw [e0] at gr
        exact gr
      · first | exact below_from HB0.out HBE.out | (rw [← hS]; exact below_from HB0.out HBE.out)
end Go.Proofs.YtckpdfkobdgjeaaGreatDoor
namespace Go.Proofs.YtckpdfkobdgjeaaGreatDoor
open Go.RowKit
def overI (l : QL) (b : BL) (t : Int) (q : Nat) : Bool := decide ((valueR (leftT l b q) t).1 < 0)
theorem first1_any (w : World) (T : Nat) (t : Int) (hT : w.cell? ⟨T, 0, none⟩ = some (.int .i64 t)) (fa : Option Addr) (fm fc : Nat) (f : RunL) (hf : RunsIn w fa fm fc f) :
    Calls Tryz.prog 175 #[.slice fa fm fc, .pointer (some ⟨T, 0, none⟩)] w fun e w' => e = .returned (.bool (decide ((valueR f t).1 < 0))) ∧ Below w.heap.size w w' := by
  have K := Value_any w fa fm fc f t hf
  obtain ⟨x, hx⟩ : ∃ x, valueR f t = x := ⟨_, rfl⟩
  rw [hx] at K ⊢
  have HK := hid K
  clear K hx hf
  go_enter Tryz.func175, Tryz.ntmps175
  go_wp2_with fail
  refine HK.out.mono ?_
  rintro e w1 ⟨rfl, hb⟩
  go_wp2
  go_ret
  exact ⟨rfl, hb⟩
def IxAns (p : Nat → Bool) (n : Nat) (r : Int) : Prop := (r = -1 ∧ ∀ i, i < n → p i = false) ∨ ∃ k : Nat, k < n ∧ r = k ∧ p k = true ∧ ∀ i, i < k → p i = false
set_option maxRecDepth 100000 in
theorem IndexRs_any (fk : Nat) (caps : Array Value) (p : Nat → Bool) (hk : ∀ (args : Array Value) (w : World), (callFunc fk args).run Tryz.prog w = .ok (.enter fk args) w) (w : World) (G n : Nat) (hn : n ≤ 5) (T : Nat → RunL) (h : TakenIn w G n T)
    (hm : ∀ w', Below w.heap.size w w' → ∀ i, i < n → ∀ (a : Option Addr) (m c : Nat), RunsIn w' a m c (T i) → Calls Tryz.prog fk (#[.slice a m c] ++ caps) w' fun e w'' => e = .returned (.bool (p i)) ∧ Below w'.heap.size w' w'') :
    Calls Tryz.prog 174 #[.slice (some ⟨G, 0, none⟩) n n, .func (.func fk) #[] caps] w fun e w' => ∃ r : Int, e = .returned (.int .i64 r) ∧ IxAns p n r ∧ Below w.heap.size w w' := by
  have HT := hid h
  have HM := hid hm
  clear h hm
  go_enter Tryz.func174, Tryz.ntmps174
  go_wp2
  go_loopw [5, 8] (fun _ st wr => ∃ k : Nat, st = .int .i64 k ∧ k ≤ n ∧ (∀ i, i < k → p i = false) ∧ Below w.heap.size w wr) (fun _ st _ => n - (intOf st).toNat)
  case atStart => exact ⟨0, rfl, by omega, fun i hi => absurd hi (Nat.not_lt_zero i), Below.refl _ _⟩
  case round =>
    obtain ⟨j, rfl, hj, hall, hbel⟩ := hrel
    have HA := hid hall
    have HB := hid hbel
    clear hall hbel
    by_cases hlt : j < n
    · have hlt' : (j : Int) < n := by omega
      obtain ⟨a, m, c, c0, hr⟩ := (HT.out.later HB.out) j hlt
      have HR := hid hr
      clear hr
      cases g : p j with
      | true =>
        go_wp2_with fail
        refine (HM.out wr HB.out j hlt a m c HR.out).mono ?_
        rintro e w1 ⟨rfl, hb1⟩
        rw [g]
        go_wp2
        go_ret
        exact ⟨_, rfl, Or.inr ⟨j, hlt, rfl, g, HA.out⟩, below_from HB.out hb1⟩
      | false =>
        go_wp2_with fail
        refine (HM.out wr HB.out j hlt a m c HR.out).mono ?_
        rintro e w1 ⟨rfl, hb1⟩
        have HB1 := hid hb1
        clear hb1
        rw [g]
        go_wp2
        go_roundw
        case rel => exact ⟨j + 1, by go_num, by omega, fun i hi => by
          by_cases e : i = j
          · subst e; exact g
          · exact HA.out i (by omega), below_from HB.out HB1.out⟩
        case measure => simp [intOf]; omega
    · obtain rfl : j = n := by omega
      go_wp2
      go_ret
      exact ⟨_, rfl, Or.inl ⟨rfl, HA.out⟩, HB.out⟩
def FirstAns (c : Int) (l : QL) (b : BL) (tn : Nat) (t q : Int) (f : Bool) : Prop :=
  (f = false ∧ t = 0 ∧ q = 0 ∧ ∀ u, c ≤ u → u < 48 → ∀ k, k < tn → overI l b u k = false) ∨
  (f = true ∧ c ≤ t ∧ t < 48 ∧ ∃ k : Nat, k < tn ∧ q = k ∧ overI l b t k = true ∧ (∀ i, i < k → overI l b t i = false) ∧ ∀ u, c ≤ u → u < t → ∀ i, i < tn → overI l b u i = false)
def FirstGives (w w' : World) (e : Ending) (c : Int) (l : QL) (b : BL) (tn : Nat) : Prop := ∃ t q f, e = .returned (.tuple #[.int .i64 t, .int .i64 q, .bool f]) ∧ FirstAns c l b tn t q f ∧ Below w.heap.size w w'
set_option maxRecDepth 100000 in
set_option maxHeartbeats 2000000 in
theorem first_any (w : World) (c n : Int) (ta : Option Addr) (tn tc : Nat) (l : QL) (ba : Option Addr) (bn bc : Nat) (b : BL) (h : StIn w ta tn tc l ba bn bc b) (hc : chkL l b = 0) (k0 : 0 ≤ c) (k1 : c ≤ 48) :
    Calls Tryz.prog 144 #[.agg #[.int .i64 c, .int .i64 n, .slice ta tn tc, .slice ba bn bc]] w fun e w' => FirstGives w w' e c l b tn := by
  obtain ⟨S, hS⟩ : ∃ S, w.heap.size = S := ⟨_, rfl⟩
  obtain ⟨W1, hW1⟩ : ∃ W1, W1 = w.alloc (.cells #[.int .i64 c, .int .i64 n, .slice ta tn tc, .slice ba bn bc] 40) := ⟨_, rfl⟩
  have hb0 : Below w.heap.size w W1 := by rw [hW1]; exact (Below.refl _ _).alloc (Nat.le_refl _) _
  have x1 : StBox W1 S (.int .i64 c) (.int .i64 n) (.slice ta tn tc) (.slice ba bn bc) := by rw [hW1, ← hS]; exact StBox.new w _ _ _ _
  have h5 : tn ≤ 5 := by have := (right_of (no_error hc).1).five; have := h.1.len; omega
  have KL := hid (lefts_any W1 c n ta tn tc l ba bn bc b (h.later hb0) hc)
  have HX1 := hid x1
  have HB0 := hid hb0
  have HW1 := hid hW1
  obtain ⟨c0, c1, c2, c3⟩ := x1.cells
  rw [hW1] at c0 c1 c2 c3
  clear hb0 hW1 h x1 hc
  go_enter Tryz.func144, Tryz.ntmps144
  go_wp2_with fail
  rw [← HW1.out]
  refine KL.out.mono ?_
  rintro e w2 ⟨G, rfl, hG, hT, hb⟩
  have HB2 := hid hb
  have HT2 := hid hT
  have HX2 := hid (HX1.out.later hb)
  clear hT hG hb c0 c1 c2 c3
  obtain ⟨c0, c1, c2, c3⟩ := HX2.out.cells
  go_wp2
  go_loopw [6] (fun p wr => ∃ (P : Nat) (t : Int), p = .pointer (some ⟨P, 0, none⟩) ∧ wr.cell? ⟨P, 0, none⟩ = some (.int .i64 t) ∧ c ≤ t ∧ t ≤ 48 ∧ (∀ u, c ≤ u → u < t → ∀ i, i < tn → overI l b u i = false) ∧ Below w2.heap.size w2 wr) (fun p wr => (48 - intOf (wr.cell? (match p with | .pointer (some a) => a | _ => ⟨0, 0, none⟩) |>.getD undef)).toNat)
  case atStart => exact ⟨w2.heap.size, c, rfl, by go_simp, Int.le_refl _, k1, fun u h1 h2 => by omega, (Below.refl _ _).alloc (Nat.le_refl _) _⟩
  case round =>
    obtain ⟨P, t, rfl, hP, ht0, ht1, hno, hbel⟩ := hrel
    have HNO := hid hno
    have HBE := hid hbel
    have HP := hid hP
    clear hno hbel
    by_cases hlt : t < 48
    · have KI := hid (IndexRs_any 175 #[.pointer (some ⟨P, 0, none⟩)] (overI l b t) (fun args w => by go_simp) wr G tn h5 (leftT l b) (HT2.out.later HBE.out) (fun w' hw' i hi a m k hr => first1_any w' P t (cell_later hw' HP.out) a m k _ hr))
      go_wp2_with fail
      refine KI.out.mono ?_
      rintro e w3 ⟨r, rfl, hr, hb⟩
      have HB3 := hid hb
      have p3 := cell_later hb HP.out
      rcases hr with ⟨rfl, hr⟩ | ⟨k, hk, rfl, hk1, hk2⟩
      · have HR := hid hr
        clear hr hb hP
        go_wp2
        go_roundw
        case rel => exact ⟨w3.heap.size, t + 1, by first | rfl | go_simp, by first | go_simp | (go_simp; go_num), by omega, by omega, fun u h1 h2 i hi => by
          by_cases e : u = t
          · subst e; exact HR.out i hi
          · exact HNO.out u h1 (by omega) i hi, by first | exact (below_from HBE.out HB3.out).alloc (below_from HBE.out HB3.out).size _ | exact ((below_from HBE.out HB3.out).alloc (below_from HBE.out HB3.out).size _).setCell (by simp; exact (below_from HBE.out HB3.out).size) _⟩
        case measure =>
          have hp := HP.out
          simp [hp, intOf]
          omega
      · have HK := hid hk1
        have HK2 := hid hk2
        have hk0 : (0 : Int) ≤ k := by omega
        clear hk1 hk2 hb hP
        go_wp2
        go_ret3
        refine ⟨t, k, true, rfl, Or.inr ⟨rfl, ht0, hlt, k, hk, rfl, HK.out, HK2.out, HNO.out⟩, ?_⟩
        first | exact below_from HB0.out (below_from HB2.out (below_from HBE.out HB3.out)) | (rw [← hS]; exact below_from HB0.out (below_from HB2.out (below_from HBE.out HB3.out)))
    · obtain rfl : t = 48 := by omega
      go_wp2
      go_ret3
      refine ⟨0, 0, false, rfl, Or.inl ⟨rfl, rfl, rfl, HNO.out⟩, ?_⟩
      first | exact below_from HB0.out (below_from HB2.out HBE.out) | (rw [← hS]; exact below_from HB0.out (below_from HB2.out HBE.out))
end Go.Proofs.YtckpdfkobdgjeaaGreatDoor
namespace Go.Proofs.YtckpdfkobdgjeaaGreatDoor
open Go.RowKit Go.Shelf
theorem checkQueue_any (w : World) (a : Option Addr) (n cap : Nat) (l : QL) (q : Int) (h : QsIn w a n cap l) :
    Calls Tryz.prog 189 #[.slice a n cap, .int .i64 q] w fun e w' => e = .returned (.int .i64 (qErr l q)) ∧ Below w.heap.size w w' := by
  have HN := hid h.len
  have hcb := h.capb
  have hle := h.le
  by_cases hc : chkT l = 0
  · by_cases hq : 0 ≤ q ∧ q < l.length
    · rw [qErr_ok hc hq]
      rw [← HN.out] at hq
      obtain ⟨q0, q1⟩ := hq
      go_enter Tryz.func189, Tryz.ntmps189
      go_wp2_with fail
      refine (CheckT_any w a n cap l h).mono ?_
      rintro e w1 ⟨rfl, B1⟩
      rw [hc]
      go_wp2
      go_ret
      exact ⟨rfl, B1⟩
    · rw [qErr_none hc hq]
      rw [← HN.out] at hq
      by_cases g : q < 0
      · go_enter Tryz.func189, Tryz.ntmps189
        go_wp2_with fail
        refine (CheckT_any w a n cap l h).mono ?_
        rintro e w1 ⟨rfl, B1⟩
        rw [hc]
        go_wp2
        go_ret
        exact ⟨rfl, B1⟩
      · have g2 : (n : Int) ≤ q := by omega
        go_enter Tryz.func189, Tryz.ntmps189
        go_wp2_with fail
        refine (CheckT_any w a n cap l h).mono ?_
        rintro e w1 ⟨rfl, B1⟩
        rw [hc]
        go_wp2
        go_ret
        exact ⟨rfl, B1⟩
  · rw [qErr_bad hc]
    have hc' : (chkT l != 0) = true := by simp [hc]
    go_enter Tryz.func189, Tryz.ntmps189
    go_wp2_with fail
    refine (CheckT_any w a n cap l h).mono ?_
    rintro e w1 ⟨rfl, B1⟩
    go_wp2
    go_ret
    exact ⟨rfl, B1⟩
end Go.Proofs.YtckpdfkobdgjeaaGreatDoor
namespace Go.Proofs.YtckpdfkobdgjeaaGreatDoor
open Go.RowKit Go.Shelf
attribute [local go_sem] Oper.semAt_some
set_option maxRecDepth 100000 in
set_option maxHeartbeats 2000000 in
theorem Under_ok (w : World) (a : Option Addr) (n cap : Nat) (l : QL) (q : Int) (h : QsIn w a n cap l) (hc : chkT l = 0) (hq0 : 0 ≤ q) (hqn : q < n) :
    Calls Tryz.prog 177 #[.slice a n cap, .int .i64 q] w fun e w' => ∃ a' cap', e = .returned (.tuple #[.slice a' n cap', .int .i64 0]) ∧ BoolsIn w' a' n cap' (underOf l n q) ∧ Below w.heap.size w w' := by
  have HN := hid h.len
  have hcb := h.capb
  have hle := h.le
  have HR := hid (right_of hc)
  have hp : 0 < n := by have := HR.out.pos; have := HN.out; omega
  have h5 : n ≤ 5 := by have := HR.out.five; have := HN.out; omega
  have he : qErr l q = 0 := qErr_ok hc ⟨hq0, by rw [← HN.out]; exact hqn⟩
  obtain ⟨b, off, rfl, hcell⟩ := h.cells hp
  have hblt : b < w.heap.size := block_lt_of_cell (hcell 0 hp).1
  have HC := hid hcell
  have HH := hid h
  clear hcell h
  have hmk := run_make_row' (P := Tryz.prog) 211 4 (.bool false) 1 Tryz.underlying211 Tryz.info4 rfl .i64 .i64 n (by omega) (by omega)
  refine (callsIn_wide (n := 4)).1 ?_
  refine callsIn_of_wp_marks Tryz.func177 rfl trivial ?_ rfl
  simp only [Tryz.ntmps177, List.size_toArray, List.length_cons, List.length_nil, Nat.reduceAdd, Nat.reduceSub, Array.replicate_succ, Array.replicate_zero, List.push_toArray, List.append_toArray, List.nil_append, List.cons_append]
  gi_wp2_with fail
  refine ⟨trivial, (callsIn_wide.2 (checkQueue_any _ _ n cap l q (HH.out.later ((Below.refl _ w).alloc (Nat.le_refl _) _)))).mono ?_⟩
  rintro e w1 ⟨rfl, B1⟩
  rw [he]
  have bQ : Boxed w1 w.heap.size 3 (.int .i64 q) := (B1.block _ (by simp)).trans (Boxed.new w 3 (.int .i64 q))
  have HB1 := hid (below_from ((Below.refl w.heap.size w).alloc (Nat.le_refl _) _) B1)
  have hsz1 : w.heap.size < w1.heap.size := by have := B1.size; simp at this; omega
  have HC1 : Hid (∀ i, i < n → w1.cell? ⟨b, off + i * 3 + 1, none⟩ = some (.int .i64 (qu l i).parent)) := fun i hi => cell_later HB1.out (HC.out i hi).2.1
  clear B1
  gi_wp2_with fail
  clear hmk
  obtain ⟨W1, hW1⟩ : ∃ W1, (w1.alloc (.cells (madeCells #[.bool false] n) 4)).alloc (.cells #[.slice (some ⟨w1.heap.size, 0, none⟩) n n] 211) = W1 := ⟨_, rfl⟩
  have T1 : Hid (W1.rowIs w1.heap.size 4 n (fun _ => .bool false)) := by rw [← hW1]; exact (World.rowIs_made w1 _ n 4).alloc _
  have bU : Hid (Boxed W1 (w1.heap.size + 1) 211 (.slice (some ⟨w1.heap.size, 0, none⟩) n n)) := by
    rw [← hW1]
    have := Boxed.new (w1.alloc (.cells (madeCells #[.bool false] n) 4)) 211 (.slice (some ⟨w1.heap.size, 0, none⟩) n n)
    rwa [World.size_alloc] at this
  have BW1 : Hid (Below w1.heap.size w1 W1) := by rw [← hW1]; exact ((Below.refl _ w1).alloc (Nat.le_refl _) _).alloc (by simp) _
  have hsW1 : W1.heap.size = w1.heap.size + 2 := by rw [← hW1]; simp
  rw [hW1]
  clear hW1
  refine wpIn_loop (UInv w.heap.size w1.heap.size b off n cap l q W1) (UMu n) ?start ?round
  case start => exact ⟨0, _, [], undef, undef, undef, undef, undef, undef, undef, rfl, by omega, ⟨rfl, rfl, rfl, Nat.le_refl _, fun _ _ _ => rfl, T1.out⟩, fun i hi => by omega, fun i _ _ => rfl, fun D hD => by simp at hD, by simp⟩
  case round =>
    rintro a W ⟨j, f, ds, u8, u22, u23, u24, u25, u26, u34, rfl, hj, hA, hlo, hhi, hms, hnd⟩
    have HA := hid hA
    have HLO := hid hlo
    have HHI := hid hhi
    have HMS := hid hms
    have HND := hid hnd
    have hsW : w1.heap.size + 2 ≤ W.heap.size := by have := hA.size; omega
    clear hA hlo hhi hms hnd
    generalize hds : (ds.map fun D => ({ target := .collected D, args := #[] } : Deferred)) = dm
    have HDS := hid hds
    clear hds
    by_cases hlt : j < n
    · have hlt' : (j : Int) < n := by omega
      gi_wp2_with fail
      refine ⟨trivial, (up_in Fence.wide _ trivial rfl _ _ _ ⟨_, _, _, rfl⟩).mono ?_⟩
      rintro e w2 ⟨rfl, rfl⟩
      gi_wp2_with fail
      have bI := Boxed.new W 3 (.int .i64 j)
      have bL := Boxed.new (W.alloc (.cells #[.int .i64 j] 3)) 37 (.slice (some ⟨b, off, none⟩) n cap)
      have bJ := Boxed.new ((W.alloc (.cells #[.int .i64 j] 3)).alloc (.cells #[.slice (some ⟨b, off, none⟩) n cap] 37)) 3 (.int .i64 j)
      rw [World.size_alloc] at bL
      rw [World.size_alloc, World.size_alloc] at bJ
      have hB0 : Below W.heap.size W (((W.alloc (.cells #[.int .i64 j] 3)).alloc (.cells #[.slice (some ⟨b, off, none⟩) n cap] 37)).alloc (.cells #[.int .i64 j] 3)) := (((Below.refl _ W).alloc (Nat.le_refl _) _).alloc (by simp) _).alloc (by simp; omega) _
      have hsz : (((W.alloc (.cells #[.int .i64 j] 3)).alloc (.cells #[.slice (some ⟨b, off, none⟩) n cap] 37)).alloc (.cells #[.int .i64 j] 3)).heap.size = W.heap.size + 3 := by simp
      have bI' := (bI.alloc (.cells #[.slice (some ⟨b, off, none⟩) n cap] 37)).alloc (.cells #[.int .i64 j] 3)
      have bL' := bL.alloc (.cells #[.int .i64 j] 3)
      obtain ⟨W0, hW0⟩ : ∃ W0, ((W.alloc (.cells #[.int .i64 j] 3)).alloc (.cells #[.slice (some ⟨b, off, none⟩) n cap] 37)).alloc (.cells #[.int .i64 j] 3) = W0 := ⟨_, rfl⟩
      rw [hW0] at hsz hB0 bI' bL' bJ ⊢
      clear hW0 bI bL
      have bU0 : Boxed W0 (w1.heap.size + 1) 211 (.slice (some ⟨w1.heap.size, 0, none⟩) n n) := (hB0.block _ (by omega)).trans (HA.out.box bU.out (by omega))
      have bQ1 : Boxed W1 w.heap.size 3 (.int .i64 q) := (BW1.out.block _ hsz1).trans bQ
      have bQ0 : Boxed W0 w.heap.size 3 (.int .i64 q) := (hB0.block _ (by omega)).trans (HA.out.box bQ1 (by omega))
      have row0 : W0.rowIs w1.heap.size 4 n f := HA.out.row.of_block (hB0.block _ (by omega))
      have cells0 : ∀ i, i < n → W0.cell? ⟨b, off + i * 3 + 1, none⟩ = some (.int .i64 (qu l i).parent) := fun i hi => by
        have c1 := cell_later BW1.out (HC1.out i hi)
        have c2 : W.cell? ⟨b, off + i * 3 + 1, none⟩ = some (.int .i64 (qu l i).parent) := (World.cell?_of_block (w := W1) (a := ⟨b, off + i * 3 + 1, none⟩) (HA.out.block b (by omega) (by omega))).trans c1
        exact cell_later hB0 c2
      have HCE := hid cells0
      have HRW := hid row0
      clear cells0 row0 bQ1
      refine wpIn_rangeFunc_ownG (F := Fence.wide) rfl (by omega) (gf := 130) (lb := #[.pointer (some ⟨W.heap.size + 1 + 1, 0, none⟩), .pointer (some ⟨W.heap.size + 1, 0, none⟩)]) rfl trivial (enters_of Tryz.func130 (by kernel_rfl) rfl)
        (up_stops Fence.wide _ trivial rfl (by omega) (W.heap.size + 1 + 1) (W.heap.size + 1) W.heap.size b off n cap l j HR.out HN.out hlt' W0 bJ bL' (by omega) (by omega) HCE.out)
        KeepsL.trans (keepsL_b (by omega)) (Below.refl _ _) (fun _ => rfl)
        (fun pre W' => (∀ x ∈ pre, x ≠ q) ∧ After W0 W' w1.heap.size n f)
        (fun c pre W' => (c = .exit 2 ∧ q ∈ pre) ∧ After W0 W' w1.heap.size n (fun i => if i = j then .bool true else f i))
        (OwnFrom.and (ownFrom_pure _ _) (After.own (Nat.le_refl _) (by omega)))
        (fun c => OwnFrom.and (ownFrom_pure _ _) (After.own (Nat.le_refl _) (by omega)))
        ⟨fun x hx => by simp at hx, ⟨rfl, rfl, rfl, Nat.le_refl _, fun _ _ _ => rfl, HRW.out⟩⟩
        (fun x => { tmps := #[.slice (some ⟨b, off, none⟩) n cap, .int .i64 q, undef, .pointer (some ⟨w.heap.size, 0, none⟩), .slice none 0 0, .int .i64 0, .int .i64 0, .pointer (some ⟨w1.heap.size + 1, 0, none⟩), .pointer (some ⟨W.heap.size, 0, none⟩), .int .i64 x, .slice (some ⟨b, off, none⟩) n cap, .int .i64 q, .int .i64 0, .int .i64 0, .bool false, undef, .slice (some ⟨b, off, none⟩) n cap, .int .i64 n, .slice (some ⟨w1.heap.size, 0, none⟩) n n, .slice (some ⟨b, off, none⟩) n cap, .int .i64 n, .int .i64 j, .bool true, .int .i64 j, .slice (some ⟨b, off, none⟩) n cap, .int .i64 j, .func (.func 130) #[] #[.pointer (some ⟨W.heap.size + 1 + 1, 0, none⟩), .pointer (some ⟨W.heap.size + 1, 0, none⟩)], .int .i64 x, undef, undef, undef, undef, undef, undef, u34, undef], defers := [] }) ?assign ?body ?done ?stop
      case assign =>
        intro l x W K hK
        gi_wp2
        exact hK
      case body =>
        rintro lp pre x W' ⟨hno, hAf⟩ hltp
        have HNO := hid hno
        have cq := (hAf.box bQ0 (by omega)).cell
        have cu := (hAf.box bU0 (by omega)).cell
        have ci := (hAf.box bI' (by omega)).cell
        have cr := hAf.row.cell hlt
        rw [HHI.out j (Nat.le_refl _) hlt] at cr
        have fr := hAf.row.frozen j
        have HAF := hid hAf
        clear hno hAf
        cases g : (x == q) with
        | true =>
          gi_wp2
          exact ⟨(KeepsOthers.setCell _ _ _).from _, ⟨rfl, by rw [eq_of_beq g]; simp⟩, HAF.out.hit j _⟩
        | false =>
          gi_wp2
          exact ⟨KeepsFrom.refl _ _, ⟨Below.refl _ _, fun v hv => hv⟩, fun y hy => by
            rw [List.mem_append] at hy
            rcases hy with hy | hy
            · exact HNO.out y hy
            · simp at hy; subst hy; exact ne_of_beq_false g, HAF.out⟩
      case done =>
        rintro D ys W' hD rfl ⟨hno, hAf⟩ hK
        have HNO := hid hno
        have HAF := hid hAf
        clear hno hAf
        gi_wp2
        rw [← HDS.out]
        exact ⟨under_next hlt HA.out hB0 HAF.out hsW hsW1 HLO.out HHI.out HMS.out HND.out hD hK (by rw [stands_not HNO.out]; exact HHI.out j (Nat.le_refl _) hlt) (fun i _ => rfl), by simp [UMu, intOf]; omega⟩
      case stop =>
        rintro D c pre W' hD hpre ⟨⟨rfl, hin⟩, hAf⟩ hK
        have HIN : Hid (standsIn l (j : Int) q = true) := stands_iff.2 (hpre.subset hin)
        have HAF := hid hAf
        clear hin hAf hpre
        gi_wp2
        rw [← HDS.out]
        exact ⟨under_next hlt HA.out hB0 HAF.out hsW hsW1 HLO.out HHI.out HMS.out HND.out hD hK (by rw [if_pos rfl, HIN.out]) (fun i hi => if_neg hi), by simp [UMu, intOf]; omega⟩
    · obtain rfl : n = j := by omega
      have hbx := (HA.out.box bU.out (by omega)).cell
      gi_wp2
      show LeavesInM _ _ _ _ _ _ dm _ _
      rw [← HDS.out]
      refine leaves_marks (w1.heap.size + 2) ds W hsW HND.out (fun D hD => ⟨(HMS.out D hD).1, (HMS.out D hD).2.2⟩) (fun W' hb => ?_)
      refine ⟨_, results_tmp2 rfl _ _ _, _, _, rfl, bools_row (underOf_len l n q).symm (HA.out.row.of_block (hb.block _ (by omega))) (fun i hi => by rw [HLO.out i hi, underOf_get l n q i hi]) h5, ?_⟩
      exact (below_from HB1.out BW1.out).trans (((HA.out.below (B := w.heap.size) (by omega) (by omega))).trans (hb.mono (by omega)))
end Go.Proofs.YtckpdfkobdgjeaaGreatDoor
namespace Go.Proofs.YtckpdfkobdgjeaaGreatDoor
open Go.RowKit Go.Shelf
theorem Back_any (w : World) (a : Option Addr) (len cap : Nat) :
    Calls Tryz.prog 178 #[.slice a len cap] w fun e w' => e = .returned (.func (.func 190) #[] #[.pointer (some ⟨w.heap.size, 0, none⟩)]) ∧ w' = w.alloc (.cells #[.slice a len cap] 38) := by
  go_enter Tryz.func178, Tryz.ntmps178
  go_wp2
  go_ret
  exact ⟨rfl, rfl⟩
end Go.Proofs.YtckpdfkobdgjeaaGreatDoor
namespace Go.Proofs.YtckpdfkobdgjeaaGreatDoor
open Go.RowKit Go.Shelf
attribute [local go_sem] Oper.semAt_some
abbrev BN (n : Nat) := { i : Nat // i < n }
def dn (n : Nat) : Nat → List (BN n)
  | 0 => []
  | k + 1 => dn n k ++ (if h : k < n then [⟨n - 1 - k, by omega⟩] else [])
theorem dn_len (n : Nat) : ∀ k, k ≤ n → (dn n k).length = k
  | 0, _ => rfl
  | k + 1, h => by rw [dn, dif_pos (by omega), List.length_append, dn_len n k (by omega)]; rfl
theorem dn_next {n m : Nat} (h : m < n) : dn n (n - m) = dn n (n - (m + 1)) ++ [⟨m, h⟩] := by
  rw [show n - m = (n - (m + 1)) + 1 by omega, dn, dif_pos (by omega)]
  congr 2
  apply Subtype.ext
  show n - 1 - (n - (m + 1)) = m
  omega
theorem dn_mem {n : Nat} : ∀ {k : Nat}, k ≤ n → ∀ {i : Nat} (h : i < n), n - k ≤ i → (⟨i, h⟩ : BN n) ∈ dn n k
  | 0, _, i, h, hi => by omega
  | k + 1, hk, i, h, hi => by
    rw [dn, dif_pos (by omega), List.mem_append]
    by_cases e : i = n - 1 - k
    · right; subst e; exact List.mem_singleton.2 rfl
    · left; exact dn_mem (by omega) h (by omega)
def bkA (x : Bk) : Value := .agg #[.int .i64 x.id, .int .i64 x.rq.queue, .int .i64 x.rq.fr, .int .i64 x.rq.un, .int .i64 x.rq.kind, .slice x.rq.pa x.rq.pn x.rq.pc, .slice x.ba x.bn x.bc]
set_option maxRecDepth 100000 in
set_option maxHeartbeats 2000000 in
theorem Back1_in (n : Nat) (hn : 1 ≤ n) (lp Bs n₀ bb bo bn bc : Nat) (b : BL) (h12 : bn ≤ 12) (_hle : bn ≤ bc) (_hcb : bc ≤ 9223372036854775807) (hbb : bb < n₀) (hBn : Bs < n₀) (J Jx : List (BN bn) → World → Prop)
    (hY : ∀ pre x W, J pre W → pre.length < bn → YieldAt Fence.wide (n - 1) Tryz.prog lp #[.int .i64 (x.1 : Int), bkA (bk b x.1)] W fun e W' =>
      (e = .returned (.bool true) ∧ J (pre ++ [x]) W' ∧ Below n₀ W W') ∨ (e = .returned (.bool false) ∧ Jx (pre ++ [x]) W'))
    (W : World) (hB : W.cell? ⟨Bs, 0, none⟩ = some (.slice (some ⟨bb, bo, none⟩) bn bc))
    (hc : ∀ i, i < bn → W.cell? ⟨bb, bo + i * 7, none⟩ = some (.int .i64 (bk b i).id) ∧ W.cell? ⟨bb, bo + i * 7 + 1, none⟩ = some (.int .i64 (bk b i).rq.queue) ∧ W.cell? ⟨bb, bo + i * 7 + 2, none⟩ = some (.int .i64 (bk b i).rq.fr) ∧ W.cell? ⟨bb, bo + i * 7 + 3, none⟩ = some (.int .i64 (bk b i).rq.un) ∧ W.cell? ⟨bb, bo + i * 7 + 4, none⟩ = some (.int .i64 (bk b i).rq.kind) ∧ W.cell? ⟨bb, bo + i * 7 + 5, none⟩ = some (.slice (bk b i).rq.pa (bk b i).rq.pn (bk b i).rq.pc) ∧ W.cell? ⟨bb, bo + i * 7 + 6, none⟩ = some (.slice (bk b i).ba (bk b i).bn (bk b i).bc))
    (h0 : J [] W) :
    CallsIn Fence.wide n Tryz.prog 190 #[.func (.yield lp) #[] #[], .pointer (some ⟨Bs, 0, none⟩)] W fun e W' => (∃ v, e = .returned v) ∧ ((∃ ys, ys = dn bn bn ∧ J ys W') ∨ (∃ pre, (∃ k, k ≤ bn ∧ pre = dn bn k) ∧ Jx pre W')) := by
  have HY := hid hY
  have HC := hid hc
  clear hY hc
  refine callsIn_of_wp Tryz.func190 rfl trivial ?_ rfl
  simp only [Tryz.ntmps190, List.size_toArray, List.length_cons, List.length_nil, Nat.reduceAdd, Nat.reduceSub, Array.replicate_succ, Array.replicate_zero, List.push_toArray, List.append_toArray, List.nil_append, List.cons_append]
  gi_wp2
  gi_loopw [3] (fun i wr => ∃ m : Nat, m ≤ bn ∧ i = .int .i64 ((m : Int) - 1) ∧ J (dn bn (bn - m)) wr ∧ Below n₀ W wr) (fun i _ => (intOf i + 1).toNat)
  case atStart => exact ⟨bn, Nat.le_refl _, rfl, by rw [Nat.sub_self]; exact h0, Below.refl _ _⟩
  case round =>
    obtain ⟨m, hm, rfl, hJs, hnx⟩ := hrel
    have HJ := hid hJs
    have HN := hid hnx
    have hBr := (hnx.cell (p := ⟨Bs, 0, none⟩) hBn).trans hB
    clear hJs hnx
    cases m with
    | zero =>
      have hz : ((0 : Nat) : Int) - 1 = -1 := rfl
      rw [hz]
      gi_wp2
      go_end0
      exact ⟨⟨_, rfl⟩, .inl ⟨_, rfl, HJ.out⟩⟩
    | succ m =>
      have hz : ((m + 1 : Nat) : Int) - 1 = m := by omega
      rw [hz]
      have hmb : m < bn := by omega
      have hmb' : (m : Int) < bn := by omega
      obtain ⟨fn, tmps, assign, body, hy, hR⟩ := HY.out _ ⟨m, hmb⟩ wr HJ.out (by rw [dn_len _ _ (by omega)]; omega)
      obtain ⟨d0, d1, d2, d3, d4, d5, d6⟩ := HC.out m hmb
      have e0 := (HN.out.cell (p := ⟨bb, bo + m * 7, none⟩) hbb).trans d0
      have e1 := (HN.out.cell (p := ⟨bb, bo + m * 7 + 1, none⟩) hbb).trans d1
      have e2 := (HN.out.cell (p := ⟨bb, bo + m * 7 + 2, none⟩) hbb).trans d2
      have e3 := (HN.out.cell (p := ⟨bb, bo + m * 7 + 3, none⟩) hbb).trans d3
      have e4 := (HN.out.cell (p := ⟨bb, bo + m * 7 + 4, none⟩) hbb).trans d4
      have e5 := (HN.out.cell (p := ⟨bb, bo + m * 7 + 5, none⟩) hbb).trans d5
      have e6 := (HN.out.cell (p := ⟨bb, bo + m * 7 + 6, none⟩) hbb).trans d6
      dsimp only [bkA] at hy
      clear d0 d1 d2 d3 d4 d5 d6 hz
      gi_wp2
      refine hR.mono ?_
      rintro e W3 (⟨rfl, hJ3, hk3⟩ | ⟨rfl, hJx3⟩)
      · have HJ3 : Hid (J (dn bn (bn - m)) W3) := hid (by rw [dn_next hmb]; exact hJ3)
        have HB3 := hid (HN.out.trans hk3)
        clear hJ3 hk3
        gi_wp2
        go_roundw
        case rel => exact ⟨m, by omega, by go_num, HJ3.out, HB3.out⟩
        case measure => simp [intOf]
      · have HJ3 : Hid (Jx (dn bn (bn - m)) W3) := hid (by rw [dn_next hmb]; exact hJx3)
        clear hJx3
        gi_wp2
        refine bodyPost_ret (results_none rfl _ _ _) rfl ?_
        exact ⟨⟨_, rfl⟩, .inr ⟨_, ⟨bn - m, by omega, rfl⟩, HJ3.out⟩⟩
theorem Back_stops (n : Nat) (hn : 1 ≤ n) (Bs : Nat) (ba : Option Addr) (bn bc : Nat) (b : BL) (h12 : bn ≤ 12) (w : World) (hb : BksIn w ba bn bc b) (hp : 0 < bn) (hc : w.cell? ⟨Bs, 0, none⟩ = some (.slice ba bn bc)) :
    SeqStopsK Fence.wide n Tryz.prog 190 #[.pointer (some ⟨Bs, 0, none⟩)] (fun x : BN bn => #[.int .i64 (x.1 : Int), bkA (bk b x.1)]) (Below w.heap.size) (fun ys => ys = dn bn bn) (fun pre => ∃ k, k ≤ bn ∧ pre = dn bn k) bn w := fun l J Jx W hW _ _ hY h0 => by
  obtain ⟨bb, bo, rfl, hcs⟩ := hb.cells hp
  have hBs : Bs < w.heap.size := block_lt_of_cell hc
  have hbb : bb < w.heap.size := block_lt_of_cell (hcs 0 hp).1
  refine Back1_in n hn l Bs w.heap.size bb bo bn bc b h12 hb.le hb.capb hbb hBs J Jx hY W (cell_later hW hc) (fun i hi => ?_) h0
  obtain ⟨d0, d1, d2, d3, d4, d5, d6⟩ := hcs i hi
  exact ⟨cell_later hW d0, cell_later hW d1, cell_later hW d2, cell_later hW d3, cell_later hW d4, cell_later hW d5, cell_later hW d6⟩
end Go.Proofs.YtckpdfkobdgjeaaGreatDoor
namespace Go.Proofs.YtckpdfkobdgjeaaGreatDoor
open Go.RowKit Go.Shelf
attribute [local go_sem] Oper.semAt_some
def hitsI (l : QL) (b : BL) (t q : Int) (i : Nat) : Bool := standsIn l (bk b i).rq.queue q && takesB (bk b i) t
def lastI (l : QL) (b : BL) (t q : Int) : Nat → Nat
  | 0 => 0
  | m + 1 => if hitsI l b t q m = true then m else lastI l b t q m
theorem lastI_at {l : QL} {b : BL} {t q : Int} : ∀ {n m : Nat}, m < n → hitsI l b t q m = true → (∀ i, m < i → i < n → hitsI l b t q i = false) → lastI l b t q n = m
  | 0, m, h, _, _ => by omega
  | n + 1, m, h, h1, h2 => by
    rw [lastI]
    by_cases e : m = n
    · subst e; rw [if_pos h1]
    · rw [if_neg (by rw [h2 n (by omega) (by omega)]; decide)]
      exact lastI_at (by omega) h1 fun i hi hn => h2 i hi (by omega)
theorem lastI_none {l : QL} {b : BL} {t q : Int} : ∀ {n : Nat}, (∀ i, i < n → hitsI l b t q i = false) → lastI l b t q n = 0
  | 0, _ => rfl
  | n + 1, h => by
    rw [lastI, if_neg (by rw [h n (by omega)]; decide)]
    exact lastI_none fun i hi => h i (by omega)
set_option maxRecDepth 100000 in
set_option maxHeartbeats 4000000 in
theorem last_any (w : World) (c n : Int) (ta : Option Addr) (tn tc : Nat) (l : QL) (ba : Option Addr) (bn bc : Nat) (b : BL) (h : StIn w ta tn tc l ba bn bc b) (hc : Clean l b) (hp : 0 < bn) (t : Int) (q : Nat) (hq : q < tn) :
    Calls Tryz.prog 145 #[.agg #[.int .i64 c, .int .i64 n, .slice ta tn tc, .slice ba bn bc], .int .i64 t, .int .i64 (q : Int)] w fun e w' => e = .returned (.int .i64 (lastI l b t q bn : Nat)) ∧ Below w.heap.size w w' := by
  obtain ⟨S, hS⟩ : ∃ S, w.heap.size = S := ⟨_, rfl⟩
  obtain ⟨W1, hW1⟩ : ∃ W1, W1 = ((w.alloc (.cells #[.int .i64 c, .int .i64 n, .slice ta tn tc, .slice ba bn bc] 40)).alloc (.cells #[.int .i64 t] 3)).alloc (.cells #[.int .i64 0] 3) := ⟨_, rfl⟩
  obtain ⟨V1, hV1⟩ : ∃ V1, V1 = w.alloc (.cells #[.int .i64 c, .int .i64 n, .slice ta tn tc, .slice ba bn bc] 40) := ⟨_, rfl⟩
  have hbV : Below w.heap.size w V1 := by rw [hV1]; exact (Below.refl _ _).alloc (Nat.le_refl _) _
  have sV : V1.heap.size = S + 1 := by rw [hV1]; simp [hS]
  have xV : StBox V1 S (.int .i64 c) (.int .i64 n) (.slice ta tn tc) (.slice ba bn bc) := by rw [hV1, ← hS]; exact StBox.new w _ _ _ _
  have hW1' : W1 = (V1.alloc (.cells #[.int .i64 t] 3)).alloc (.cells #[.int .i64 0] 3) := by rw [hW1, hV1]
  have bT : Boxed W1 (S + 1) 3 (.int .i64 t) := by
    rw [hW1', ← sV]
    exact (Boxed.new V1 3 (.int .i64 t)).alloc _
  have bR : Boxed W1 (S + 1 + 1) 3 (.int .i64 0) := by
    have := Boxed.new (V1.alloc (.cells #[.int .i64 t] 3)) 3 (.int .i64 0)
    rw [World.size_alloc, sV] at this
    rw [hW1']
    exact this
  have hbW : Below V1.heap.size V1 W1 := by rw [hW1']; exact ((Below.refl _ _).alloc (Nat.le_refl _) _).alloc (by simp) _
  have hb0 : Below w.heap.size w W1 := below_from hbV hbW
  have sW : W1.heap.size = S + 3 := by rw [hW1']; simp [sV]
  have xS := xV.later hbW
  have HR := right_of hc.tree
  have htl := h.1.len
  have hbl := h.2.len
  have h12 : bn ≤ 12 := by have := hc.few; omega
  have KU := hid (Under_ok W1 ta tn tc l (q : Int) (h.1.later hb0) hc.tree (by omega) (by omega))
  have HOK : Hid (∀ i, i < bn → meets (bk b i).rq (bk b i).bs = true ∧ 0 ≤ (bk b i).rq.queue ∧ (bk b i).rq.queue < tn) := fun i hi => by
    have := clean_at hc (bk_mem (b := b) (i := i) (by omega))
    exact ⟨this.1, this.2.1, by omega⟩
  have HST := hid h
  have HB0 := hid hb0
  have HW1 := hid hW1
  have HXS := hid xS
  have HBT := hid bT
  have HBR := hid bR
  have HSW := hid sW
  obtain ⟨c0, c1, c2, c3⟩ := xS.cells
  rw [hW1] at c0 c1 c2 c3
  clear hV1 hbV sV xV hW1' bT bR hbW hb0 sW xS HR htl hbl hc h hW1
  refine (callsIn_wide (n := 4)).1 ?_
  refine callsIn_of_wp_marks Tryz.func145 rfl trivial ?_ rfl
  simp only [Tryz.ntmps145, List.size_toArray, List.length_cons, List.length_nil, Nat.reduceAdd, Nat.reduceSub, Array.replicate_succ, Array.replicate_zero, List.push_toArray, List.append_toArray, List.nil_append, List.cons_append]
  gi_wp2_with fail
  rw [← HW1.out]
  refine ⟨trivial, (callsIn_wide.2 KU.out).mono ?_⟩
  rintro e w1 ⟨ua, uc, rfl, hu, hb⟩
  obtain ⟨U, hU⟩ : ∃ U, w1.heap.size = U := ⟨_, rfl⟩
  obtain ⟨w2, hw2⟩ : ∃ w2, w2 = w1.alloc (.cells #[.slice ua tn uc] 211) := ⟨_, rfl⟩
  have hb2 : Below w1.heap.size w1 w2 := by rw [hw2]; exact (Below.refl _ _).alloc (Nat.le_refl _) _
  have bU : Boxed w2 U 211 (.slice ua tn uc) := by rw [hw2, ← hU]; exact Boxed.new w1 _ _
  have s2 : w2.heap.size = U + 1 := by rw [hw2]; simp [hU]
  have hlU : S + 3 ≤ U := by have := hb.size; have := HSW.out; omega
  have HB2 := hid (below_from (below_from HB0.out hb) hb2)
  have HXS2 := hid ((HXS.out.later hb).later hb2)
  have HBT2 : Hid (Boxed w2 (S + 1) 3 (.int .i64 t)) := hid ((hb2.block _ (by omega)).trans ((hb.block _ (by have := HSW.out; omega)).trans HBT.out))
  have HBR2 : Hid (Boxed w2 (S + 1 + 1) 3 (.int .i64 0)) := hid ((hb2.block _ (by omega)).trans ((hb.block _ (by have := HSW.out; omega)).trans HBR.out))
  have HU2 := hid (hu.later hb2)
  have HBU2 := hid bU
  have HW2 := hid hw2
  have HS2 := hid s2
  have KB := hid (Back_any w2 ba bn bc)
  clear hb hb2 hu bU hw2 s2 c0 c1 c2 c3
  obtain ⟨c0, c1, c2, c3⟩ := HXS2.out.cells
  rw [HW2.out] at c0 c1 c2 c3
  gi_wp2_with fail
  rw [← HW2.out]
  refine ⟨trivial, (callsIn_wide.2 KB.out).mono ?_⟩
  rintro e w3 ⟨rfl, hw3⟩
  rw [HS2.out]
  have HW3 := hid hw3
  clear hw3 c0 c1 c2 c3
  have hb3 : Below w2.heap.size w2 w3 := by rw [HW3.out]; exact (Below.refl _ _).alloc (Nat.le_refl _) _
  have s3 : w3.heap.size = U + 2 := by rw [HW3.out]; simp [HS2.out]
  have bB3 : Boxed w3 (U + 1) 38 (.slice ba bn bc) := by rw [HW3.out, ← HS2.out]; exact Boxed.new w2 _ _
  have bT3 : Boxed w3 (S + 1) 3 (.int .i64 t) := (hb3.block _ (by have := HS2.out; omega)).trans HBT2.out
  have bR3 : Boxed w3 (S + 1 + 1) 3 (.int .i64 0) := (hb3.block _ (by have := HS2.out; omega)).trans HBR2.out
  have bU3 : Boxed w3 U 211 (.slice ua tn uc) := (hb3.block _ (by have := HS2.out; omega)).trans HBU2.out
  have HB3 := hid (below_from HB2.out hb3)
  have HU3 := hid (HU2.out.later hb3)
  have HBK3 := hid (HST.out.2.later HB3.out)
  have HS3 := hid s3
  have BT3 := hid bT3
  have BR3 := hid bR3
  have BU3 := hid bU3
  have BB3 := hid bB3
  obtain ⟨ub, uo, hua, hucs⟩ := HU3.out.cells (by omega)
  subst hua
  have HUC := hid hucs
  have hule := HU3.out.le
  have hucb := HU3.out.capb
  clear hb3 s3 bT3 bR3 bU3 bB3 hucs
  gi_wp2_with fail
  refine wpIn_rangeFunc_ownH (F := Fence.wide) rfl (by omega) (gf := 190) (lb := #[.pointer (some ⟨U + 1, 0, none⟩)]) rfl trivial (enters_of Tryz.func190 (by kernel_rfl) rfl)
    (Back_stops _ (by omega) (U + 1) ba bn bc b h12 w3 HBK3.out hp BB3.out.cell)
    belowK_t (belowK_b (Nat.le_refl _)) (Below.refl _ _) (fun _ => rfl)
    (fun pre W => (∀ x ∈ pre, hitsI l b t q x.1 = false) ∧ Below w3.heap.size w3 W)
    (fun cd pre W => (cd = .ret ∧ ∃ ini x, pre = ini ++ [x] ∧ (∀ y ∈ ini, hitsI l b t q y.1 = false) ∧ hitsI l b t q x.1 = true ∧ W.cell? ⟨S + 1 + 1, 0, none⟩ = some (.int .i64 (x.1 : Int))) ∧ Below w.heap.size w W)
    (OwnFrom.and (ownFrom_pure _ _) (ownFrom_below (Nat.le_refl _) (Nat.le_refl _)))
    (fun cd => OwnFrom.and (Own.from (fun s A B row hs hg hr => by obtain ⟨hc, ini, x, e1, e2, e3, e4⟩ := hs; exact ⟨hc, ini, x, e1, e2, e3, cell_kept e4 hg hr⟩) _) (ownFrom_below (Nat.le_refl _) HB3.out.size))
    ⟨fun x hx => absurd hx (List.not_mem_nil), Below.refl _ _⟩
    (fun x a' W => ∃ Bx, w3.heap.size ≤ Bx ∧ BkBox W Bx (bk b x.1) ∧ a' = { tmps := #[.agg #[.int .i64 c, .int .i64 n, .slice ta tn tc, .slice ba bn bc], .int .i64 t, .int .i64 (q : Int), .pointer (some ⟨S, 0, none⟩), .pointer (some ⟨S + 1, 0, none⟩), undef, .pointer (some ⟨S + 1 + 1, 0, none⟩), .pointer (some ⟨U, 0, none⟩), .int .i64 0, .int .i64 (x.1 : Int), .pointer (some ⟨Bx, 0, none⟩), .tuple #[.slice (some ⟨ub, uo, none⟩) tn uc, .int .i64 0], .pointer (some ⟨S, 2, none⟩), .slice ta tn tc, .int .i64 (q : Int), .tuple #[.slice (some ⟨ub, uo, none⟩) tn uc, .int .i64 0], .slice (some ⟨ub, uo, none⟩) tn uc, .int .i64 0, .pointer (some ⟨S, 3, none⟩), .slice ba bn bc, .func (.func 190) #[] #[.pointer (some ⟨U + 1, 0, none⟩)], .int .i64 (x.1 : Int), .agg #[.int .i64 (bk b x.1).id, .int .i64 (bk b x.1).rq.queue, .int .i64 (bk b x.1).rq.fr, .int .i64 (bk b x.1).rq.un, .int .i64 (bk b x.1).rq.kind, .slice (bk b x.1).rq.pa (bk b x.1).rq.pn (bk b x.1).rq.pc, .slice (bk b x.1).ba (bk b x.1).bn (bk b x.1).bc], undef, undef, undef, undef, undef, undef, undef, undef, undef, undef, undef, undef], defers := [] })
    (fun x a' s A B row hs hg hr => by
      obtain ⟨Bx, h1, h2, h3⟩ := hs
      refine ⟨Bx, h1, (hg.block Bx (Array.getElem?_eq_some_iff.1 h2).1 (fun e => ?_)).trans h2, h3⟩
      obtain ⟨_, o, ho, hcl⟩ := hr Bx e.symm
      have h2' : A.heap[Bx]? = _ := h2
      rw [h2'] at ho
      cases ho
      cases hcl)
    ?assign ?body ?done ?stop
  case assign =>
    rintro lp pre x W K hi hK
    simp only [bkA]
    gi_wp2
    exact hK _ _ ((KeepsOthers.alloc _ _).from _) ((Below.refl _ W).alloc hi.2.size _) ⟨hi.1, hi.2.alloc hi.2.size _⟩ ⟨W.heap.size, hi.2.size, heap_alloc_new W _, rfl⟩
  case body =>
    rintro lp pre x a' W hl ⟨r, hr⟩ ⟨hno, hB⟩ ⟨Bx, hBx, bX, rfl⟩ hlt
    obtain ⟨i, hi⟩ := x
    obtain ⟨m1, m2, m3⟩ := HOK.out i hi
    obtain ⟨k, hk⟩ : ∃ k : Nat, (bk b i).rq.queue = k := ⟨(bk b i).rq.queue.toNat, by omega⟩
    have hkt : k < tn := by omega
    have hkt' : (k : Int) < tn := by omega
    have cU := (show Boxed W U 211 (.slice (some ⟨ub, uo, none⟩) tn uc) from (hB.block _ (by have := HS3.out; omega)).trans BU3.out).cell
    have cT := (show Boxed W (S + 1) 3 (.int .i64 t) from (hB.block _ (by have := HS3.out; omega)).trans BT3.out).cell
    have cK := cell_later hB (HUC.out k hkt)
    rw [underOf_get l tn q k hkt] at cK
    have eH : hitsI l b t q i = (standsIn l (k : Int) q && takesB (bk b i) t) := by unfold hitsI; rw [hk]
    have HEH := hid eH
    have HNO := hid hno
    have HBW := hid hB
    have HBX := hid bX
    have KT := hid (takes_any W (bk b i) ((HBK3.out.later hB).rqs i hi) ((HBK3.out.later hB).bites i hi) m1 t)
    obtain ⟨X, hX⟩ : ∃ X, bk b i = X := ⟨_, rfl⟩
    rw [hX] at KT HBX HEH hk
    obtain ⟨z0, z1, z2, z3, z4, z5, z6⟩ := HBX.out.cells
    rw [hk] at z1
    simp only [hX]
    have HKQ := hid hk
    clear hno hB bX m1 m2 m3 eH hX hr
    cases g : standsIn l (k : Int) q with
    | false =>
      rw [g] at cK HEH
      gi_wp2
      refine ⟨trivial, ?_⟩
      gi_wp2
      refine ⟨KeepsFrom.refl _ _, Below.refl _ _, fun y hy => ?_, HBW.out⟩
      rw [List.mem_append] at hy
      rcases hy with hy | hy
      · exact HNO.out y hy
      · rw [List.mem_singleton] at hy
        subst hy
        exact HEH.out.trans rfl
    | true =>
      rw [g] at cK HEH
      have eA : Value.agg #[.int .i64 X.id, .int .i64 X.rq.queue, .int .i64 X.rq.fr, .int .i64 X.rq.un, .int .i64 X.rq.kind, .slice X.rq.pa X.rq.pn X.rq.pc, .slice X.ba X.bn X.bc] = Value.agg #[.int .i64 X.id, .int .i64 (k : Int), .int .i64 X.rq.fr, .int .i64 X.rq.un, .int .i64 X.rq.kind, .slice X.rq.pa X.rq.pn X.rq.pc, .slice X.ba X.bn X.bc] := by rw [hk]
      rw [eA] at KT
      clear hk eA
      gi_wp2_with fail
      refine ⟨trivial, (calls_round KT.out).mono ?_⟩
      rintro e W4 ⟨rfl, hb4⟩
      have cR := (show Boxed W4 (S + 1 + 1) 3 (.int .i64 0) from (hb4.block _ (by have := HS3.out; have := HBW.out.size; omega)).trans ((HBW.out.block _ (by have := HS3.out; omega)).trans BR3.out))
      have cR1 := cR.cell
      have cR2 := cR.frozen
      have HB4 := hid hb4
      have HKO : Hid (KeepsOthers W W4) := hid ⟨hb4.size, fun k o hk _ => (hb4.block k (Array.getElem?_eq_some_iff.1 hk).1).trans hk⟩
      clear hb4 cR
      cases g2 : takesB X t with
      | false =>
        rw [g2] at HEH
        gi_wp2
        refine ⟨HKO.out.from _, HB4.out.mono HBW.out.size, fun y hy => ?_, below_from HBW.out HB4.out⟩
        rw [List.mem_append] at hy
        rcases hy with hy | hy
        · exact HNO.out y hy
        · rw [List.mem_singleton] at hy
          subst hy
          exact HEH.out.trans rfl
      | true =>
        rw [g2] at HEH
        gi_wp2
        refine ⟨(HKO.out.trans (KeepsOthers.setCell _ _ _)).from _, ⟨rfl, pre, ⟨i, hi⟩, rfl, HNO.out, HEH.out.trans rfl, World.cell?_setCell_same' _ _ _ (by rw [cR1]; rfl)⟩, ?_⟩
        exact (below_from HB3.out (below_from HBW.out HB4.out)).setCell (p := ⟨S + 1 + 1, 0, none⟩) (by show w.heap.size ≤ S + 1 + 1; omega) _
  case done =>
    rintro D ys W hD rfl ⟨hno, hB⟩ hK
    have cR := (show Boxed W (S + 1 + 1) 3 (.int .i64 0) from (hB.block _ (by have := HS3.out; omega)).trans BR3.out)
    have cR1 := cR.cell
    have cR2 := cR.frozen
    have HNO := hid hno
    have HBW := hid hB
    clear hno hB cR
    gi_wp2
    have hK' := (KeepsOthers.setCell W ⟨S + 1 + 1, 0, none⟩ (.int .i64 0)).same D _ hK rfl
    refine ⟨by simp, .inl ⟨_, _, rfl, run_takeDeferred hK', ?_⟩⟩
    have hc5 := cell_kept (World.cell?_setCell_same' W ⟨S + 1 + 1, 0, none⟩ (.int .i64 0) (by rw [cR1]; rfl)) (grownBy_putObj' _ D (.deferred none)) (fun r e => by cases e; exact ⟨_, hK', rfl⟩)
    have eL : lastI l b t q bn = 0 := lastI_none fun i hi => HNO.out ⟨i, hi⟩ (dn_mem (Nat.le_refl _) hi (by omega))
    have hsz := HS3.out
    refine ⟨.int .i64 0, ?_, by rw [eL]; rfl, ?_⟩
    · simp [results, Tryz.f145, go_sem, hc5]
    · exact ((below_from HB3.out HBW.out).setCell (p := ⟨S + 1 + 1, 0, none⟩) (by show w.heap.size ≤ S + 1 + 1; omega) _).trans (belowK_b (w := w) (Nat.le_refl _) _ D _ _ (by omega) hK' rfl rfl)
  case stop =>
    rintro D cd pre W hD ⟨k, hk, rfl⟩ ⟨⟨rfl, ini, x, e1, e2, e3, hcr⟩, hB⟩ hK
    gi_wp2
    refine ⟨by simp, .inl ⟨_, _, rfl, run_takeDeferred hK, ?_⟩⟩
    have hc5 := cell_kept hcr (grownBy_putObj' _ D (.deferred none)) (fun r e => by cases e; exact ⟨_, hK, rfl⟩)
    obtain ⟨k', rfl⟩ : ∃ k', k = k' + 1 := by
      cases k with
      | zero => simp [dn] at e1
      | succ k' => exact ⟨k', rfl⟩
    rw [dn, dif_pos (by omega)] at e1
    obtain ⟨rfl, e5⟩ := List.append_inj' e1 rfl
    obtain ⟨x, hx⟩ := x
    have ex : bn - 1 - k' = x := by simpa using e5
    subst ex
    have eL : lastI l b t q bn = bn - 1 - k' := lastI_at (by omega) e3 fun i hi hn => e2 ⟨i, hn⟩ (dn_mem (by omega) hn (by omega))
    have hsz := HS3.out
    refine ⟨.int .i64 ((bn - 1 - k' : Nat) : Int), ?_, by rw [eL], ?_⟩
    · simp [results, Tryz.f145, go_sem, hc5]
    · exact hB.trans (belowK_b (w := w) (Nat.le_refl _) W D _ _ (by omega) hK rfl rfl)
end Go.Proofs.YtckpdfkobdgjeaaGreatDoor
namespace Go.Proofs.YtckpdfkobdgjeaaGreatDoor
open Go.RowKit Go.Shelf
def insB (b : BL) (i : Nat) (x : Bk) : BL := b.take i ++ x :: b.drop i
theorem insB_len {b : BL} {i : Nat} (x : Bk) (hi : i ≤ b.length) : (insB b i x).length = b.length + 1 := by simp [insB]; omega
theorem bkCells_ins {b : BL} {i : Nat} (x : Bk) (hi : i ≤ b.length) : bkCells (insB b i x) = (bkCells b).take (i * 7) ++ bkCell x ++ (bkCells b).drop (i * 7) := by
  unfold insB
  rw [bkCells_app, bkCells_take b i hi, bkCells_drop b i hi, List.append_assoc]
  rfl
theorem bkCell_len (x : Bk) : (bkCell x).length = 7 := rfl
theorem bkCell_ones (x : Bk) : ∀ v ∈ bkCell x, v.oneCell' = true := by
  have := bkCells_one [x]
  simpa [bkCells] using this
def InsAns (w w' : World) (e : Ending) (B n : Nat) (row : Option Nat) (b' : BL) : Prop := ∃ g' k', e = .returned (.slice (some ⟨g', 0, none⟩) (n + 1) k') ∧ w'.ownsRow B 60 7 (.slice (some ⟨g', 0, none⟩) (n + 1) k') (n + 1) (bkCells b') ∧ w.grownBy w' row ∧ (row = some g' ∨ w.heap.size ≤ g')
theorem copy_bks (w : World) (ty : TypeId) (g o dLen dCap : Nat) (a : Addr) (sLen sCap : Nat) (cur : Array Value) (cs : List Value)
    (hg : w.heap[g]? = some (.cells cur 60 (0, 0))) (hn : cs.length = Nat.min sLen dLen * 7) (hsrc : ∀ j v, cs[j]? = some v → w.cell? (a.add j) = some v) (hfit : o + cs.length ≤ cur.size) (h1 : ∀ v ∈ cs, v.oneCell' = true) :
    (Builtin.copy_ #[38, 38] ty #[.slice (some ⟨g, o, none⟩) dLen dCap, .slice (some a) sLen sCap]).run Tryz.prog w =
      .ok (goInt (Nat.min sLen dLen)) (w.setRow g (cur.toList.take o ++ cs ++ cur.toList.drop (o + cs.length)).toArray) := by
  have hl := run_loadCells_list (P := Tryz.prog) w a cs hsrc
  have hst := run_storeCells_at Tryz.prog g o 60 cs 0 cur w hg (by simpa using hfit) h1
  obtain ⟨i0, hi, e⟩ := Option.map_eq_some_iff.1 infoBook
  simp only [Prod.mk.injEq] at e
  have hsz : i0.size = 7 := e.2.1
  simp [Builtin.copy_, run_underlying Tryz.underlying38, Builtin.lenOf, Builtin.firstCells, sizeOf, typeInfo, hi, hsz, ← hn, hl, hst]
theorem ins_cells {cl : List Value} {b : BL} {n i k : Nat} (x : Bk) (hn : n = b.length) (hi : i ≤ n) (hk : n + 1 ≤ k) (hl : cl.length = k * 7) (ht : cl.take (n * 7) = bkCells b) :
    let c1 := cl.take ((i + 1) * 7) ++ (bkCells b).drop (i * 7) ++ cl.drop ((i + 1) * 7 + ((bkCells b).drop (i * 7)).length)
    (c1.take (i * 7) ++ bkCell x ++ c1.drop (i * 7 + (bkCell x).length)).take ((n + 1) * 7) = bkCells (insB b i x) ∧ (c1.take (i * 7) ++ bkCell x ++ c1.drop (i * 7 + (bkCell x).length)).length = k * 7 ∧ c1.length = k * 7 := by
  intro c1
  have hbl : (bkCells b).length = n * 7 := by rw [bkCells_length, hn]
  have hdl : ((bkCells b).drop (i * 7)).length = n * 7 - i * 7 := by rw [List.length_drop, hbl]
  have h1 : (cl.take ((i + 1) * 7)).length = (i + 1) * 7 := by rw [List.length_take, hl]; omega
  have hc1 : c1.length = k * 7 := by
    show (_ ++ _ ++ _ : List Value).length = _
    rw [List.length_append, List.length_append, h1, hdl, List.length_drop, hl]
    omega
  have t1 : c1.take (i * 7) = (bkCells b).take (i * 7) := by
    show (cl.take ((i + 1) * 7) ++ _ ++ _).take (i * 7) = _
    rw [List.append_assoc, List.take_append_of_le_length (by rw [h1]; omega), List.take_take, ← ht, List.take_take]
    congr 1
    omega
  have d1 : c1.drop (i * 7 + (bkCell x).length) = (bkCells b).drop (i * 7) ++ cl.drop ((n + 1) * 7) := by
    show (cl.take ((i + 1) * 7) ++ (bkCells b).drop (i * 7) ++ cl.drop ((i + 1) * 7 + ((bkCells b).drop (i * 7)).length)).drop (i * 7 + (bkCell x).length) = _
    rw [bkCell_len, List.append_assoc, List.drop_append_of_le_length (by rw [h1]; omega), List.drop_eq_nil_of_le (by rw [h1]; omega), List.nil_append, hdl]
    congr 2
    omega
  rw [t1, d1]
  refine ⟨?_, ?_, hc1⟩
  · rw [bkCells_ins x (by omega), ← List.append_assoc, List.take_append_of_le_length (by simp [bkCell_len]; omega)]
    apply List.take_of_length_le
    simp [bkCell_len]
    omega
  · simp [bkCell_len]
    omega
set_option maxRecDepth 100000 in
set_option maxHeartbeats 4000000 in
theorem Insert_shift (w : World) (B g k L : Nat) (b : BL) (n : Nat) (x : Bk) (cur : Array Value) (hn : n = b.length) (h12 : n ≤ 12) (i : Nat) (hi : i < n) (hk : n + 1 ≤ k) (hkm : k ≤ maxLen) (hg : w.heap[g]? = some (.cells cur 60 (0, 0))) (hcs : cur.size = k * 7) (ht : cur.toList.take (n * 7) = bkCells b) (hB : B ≤ g)
    (hL : w.heap[L]? = some (.cells (bkCell x).toArray 60 (0, 0))) (hne : L ≠ g) :
    Calls Tryz.prog 180 #[.slice (some ⟨g, 0, none⟩) n k, .int .i64 (i : Int), .slice (some ⟨L, 0, none⟩) 1 1] w fun e w' => e = .returned (.slice (some ⟨g, 0, none⟩) (n + 1) k) ∧ w'.ownsRow B 60 7 (.slice (some ⟨g, 0, none⟩) (n + 1) k) (n + 1) (bkCells (insB b i x)) ∧ w.grownBy w' (some g) := by
  have hcl : cur.toList.length = k * 7 := by rw [Array.length_toList, hcs]
  have hbl : (bkCells b).length = n * 7 := by rw [bkCells_length, hn]
  obtain ⟨f1, f2, f3⟩ := ins_cells x hn (Nat.le_of_lt hi) hk hcl ht
  have hkb : k ≤ 9223372036854775807 := by unfold maxLen at hkm; omega
  have hdl : ((bkCells b).drop (i * 7)).length = (n - i) * 7 := by rw [List.length_drop, hbl]; omega
  have hrow : ∀ j v, (bkCells b)[j]? = some v → w.cell? ⟨g, j, none⟩ = some v := fun j v hj => by
    rw [cell_of_row w g j _ _ _ hg, ← Array.getElem?_toList]
    rw [← ht, List.getElem?_take] at hj
    split at hj
    · exact hj
    · cases hj
  have hov : ∀ lb cb, (callFunc 192 #[.slice (some ⟨L, 0, none⟩) 1 1, .slice (some ⟨g, (i + 1) * 7, none⟩) lb cb]).run Tryz.prog w = .ok (.value (.bool false)) w := fun lb cb => by
    rw [run_callFunc_extern Tryz.func192 (by kernel_rfl) (by kernel_rfl) (by kernel_rfl) (e := Extern.SlicesOverlaps.overlaps #[38, 38] #[4]) (by kernel_rfl)]
    rw [Lib.run_overlaps_apart w 38 4 60 Tryz.underlying38 7 (fun W => by
      obtain ⟨i0, hi0, e⟩ := Option.map_eq_some_iff.1 infoBook
      simp only [Prod.mk.injEq] at e
      simp [sizeOf, typeInfo, hi0, e.2.1]) ⟨L, 0, none⟩ ⟨g, (i + 1) * 7, none⟩ 1 1 lb cb hne 60 60 7 (k * 7) (by simp [World.shape?, hL, bkCell]) (by simp [World.shape?, hg, hcs]) (by omega) (frozen_of_row w L 0 _ _ hL) (frozen_of_row w L 7 _ _ hL)]
    rfl
  obtain ⟨c1, hc1⟩ : ∃ c1, c1 = cur.toList.take ((i + 1) * 7) ++ (bkCells b).drop (i * 7) ++ cur.toList.drop ((i + 1) * 7 + ((bkCells b).drop (i * 7)).length) := ⟨_, rfl⟩
  simp only [← hc1] at f1 f2 f3
  have hcp1 : ∀ ty dc sc, (Builtin.copy_ #[38, 38] ty #[.slice (some ⟨g, (i + 1) * 7, none⟩) (n + 1 - (i + 1)) dc, .slice (some ⟨g, i * 7, none⟩) (n + 1 - i) sc]).run Tryz.prog w.drew = .ok (goInt (Nat.min (n + 1 - i) (n + 1 - (i + 1)))) (w.drew.setRow g c1.toArray) := fun ty dc sc => by
    rw [hc1]
    refine copy_bks w.drew ty g ((i + 1) * 7) (n + 1 - (i + 1)) dc ⟨g, i * 7, none⟩ (n + 1 - i) sc cur _ hg ?_ ?_ ?_ (fun v hv => bkCells_one b v (List.mem_of_mem_drop hv))
    · rw [hdl]
      congr 1
      simp only [Nat.min_def]
      split <;> omega
    · intro j v hj
      rw [List.getElem?_drop] at hj
      rw [Addr.add_lit]
      exact hrow _ v hj
    · rw [hdl, hcs]
      omega
  obtain ⟨W1, hW1⟩ : ∃ W1, W1 = w.drew.setRow g c1.toArray := ⟨_, rfl⟩
  have hg1 : W1.heap[g]? = some (.cells c1.toArray 60 (0, 0)) := by rw [hW1]; exact setRow_heap w.drew g cur _ _ _ hg
  have hL1 : W1.heap[L]? = some (.cells (bkCell x).toArray 60 (0, 0)) := by rw [hW1]; exact (setRow_other w.drew g L _ hne).trans hL
  have hcp2 : ∀ ty dc, (Builtin.copy_ #[38, 38] ty #[.slice (some ⟨g, i * 7, none⟩) (n + 1 - i) dc, .slice (some ⟨L, 0, none⟩) 1 1]).run Tryz.prog W1 = .ok (goInt (Nat.min 1 (n + 1 - i))) (W1.setRow g (c1.toArray.toList.take (i * 7) ++ bkCell x ++ c1.toArray.toList.drop (i * 7 + (bkCell x).length)).toArray) := fun ty dc => by
    refine copy_bks W1 ty g (i * 7) (n + 1 - i) dc ⟨L, 0, none⟩ 1 1 c1.toArray _ hg1 ?_ ?_ ?_ (bkCell_ones x)
    · rw [bkCell_len]
      have : Nat.min 1 (n + 1 - i) = 1 := by simp only [Nat.min_def]; split <;> omega
      rw [this]
    · intro j v hj
      rw [Addr.add_lit, Nat.zero_add, cell_of_row W1 L j _ _ _ hL1]
      simpa using hj
    · rw [bkCell_len]
      simp [f3]
      omega
  rw [← hW1] at hcp1
  obtain ⟨W2, hW2⟩ : ∃ W2, W2 = W1.setRow g (c1.toArray.toList.take (i * 7) ++ bkCell x ++ c1.toArray.toList.drop (i * 7 + (bkCell x).length)).toArray := ⟨_, rfl⟩
  rw [← hW2] at hcp2
  have hz2 : ¬ ((i : Int) = (n : Int)) := by omega
  have hz3 : ¬ ((k : Int) < (n : Int) + 1) := by omega
  have hw1 : IntKind.i64.wrap ((i : Int) + 1) = (i : Int) + 1 := by rw [IntKind.wrap_i64]; omega
  have hb1 : (0 : Int) ≤ (i : Int) + 1 := by omega
  have hin : i ≤ n := by omega
  have htn : ((i : Int) + 1).toNat = i + 1 := by omega
  have hb2 : ¬ (k = i + 1) := by omega
  have hb3 : (i : Int) ≤ (n : Int) + 1 := by omega
  have hb4 : ¬ (k = i) := by omega
  have HFIN : Hid (W2.ownsRow B 60 7 (.slice (some ⟨g, 0, none⟩) (n + 1) k) (n + 1) (bkCells (insB b i x)) ∧ w.grownBy W2 (some g)) := by
    refine hid ⟨⟨by rw [bkCells_length, insB_len x (by omega)]; omega, .inr ⟨g, k, _, rfl, hB, by rw [hW2]; exact setRow_heap W1 g _ _ _ _ hg1, hk, hkm, by simpa using f2, by simpa using f1⟩⟩, ?_⟩
    rw [hW2, hW1]
    refine ⟨rfl, rfl, rfl, by simp [World.setRow], fun y hy hne' => ?_⟩
    have hyg : y ≠ g := fun e => hne' (by rw [e])
    rw [setRow_other _ g y _ hyg, setRow_other _ g y _ hyg]
    rfl
  have hcpA : (Builtin.copy_ #[38, 38] 3 #[.slice (some ⟨g, (i + 1) * 7, none⟩) (n - i) (k - (i + 1)), .slice (some ⟨g, i * 7, none⟩) (n + 1 - i) (k - i)]).run Tryz.prog w.drew = .ok (goInt (Nat.min (n + 1 - i) (n + 1 - (i + 1)))) W1 := by
    have := hcp1 3 (k - (i + 1)) (k - i)
    rw [show n + 1 - (i + 1) = n - i by omega] at this ⊢
    exact this
  have hcpB : (Builtin.copy_ #[38, 38] 3 #[.slice (some ⟨g, i * 7, none⟩) (n + 1 - i) (k - i), .slice (some ⟨L, 0, none⟩) 1 1]).run Tryz.prog W1 = .ok (goInt (Nat.min 1 (n + 1 - i))) W2 := hcp2 3 (k - i)
  clear hW2 hW1 hg1 hL1 f1 f2 f3 hc1 hrow hdl hbl hcl hL hg ht hn hcp1 hcp2
  go_enter Tryz.func180, Tryz.ntmps180
  go_wp2_with (simp only [hov])
  go_region
  go_wp2
  go_ret
  exact ⟨rfl, HFIN.out⟩
theorem grow_cells {b : BL} {n i K : Nat} (x : Bk) (hn : n = b.length) (hi : i ≤ n) (hK : n + 1 ≤ K) (rw0 : List Value) (h0 : rw0.length = K * 7) (h1 : rw0.take (i * 7) = (bkCells b).take (i * 7)) :
    let c1 := rw0.take (i * 7) ++ bkCell x ++ rw0.drop (i * 7 + (bkCell x).length)
    (c1.take ((i + 1) * 7) ++ (bkCells b).drop (i * 7) ++ c1.drop ((i + 1) * 7 + ((bkCells b).drop (i * 7)).length)).take ((n + 1) * 7) = bkCells (insB b i x) ∧ (c1.take ((i + 1) * 7) ++ (bkCells b).drop (i * 7) ++ c1.drop ((i + 1) * 7 + ((bkCells b).drop (i * 7)).length)).length = K * 7 ∧ c1.length = K * 7 := by
  intro c1
  have hbl : (bkCells b).length = n * 7 := by rw [bkCells_length, hn]
  have hdl : ((bkCells b).drop (i * 7)).length = n * 7 - i * 7 := by rw [List.length_drop, hbl]
  have htl : ((bkCells b).take (i * 7)).length = i * 7 := by rw [List.length_take, hbl]; omega
  have hc1 : c1.length = K * 7 := by
    show (_ ++ _ ++ _ : List Value).length = _
    rw [h1, List.length_append, List.length_append, htl, bkCell_len, List.length_drop, h0]
    omega
  have t1 : c1.take ((i + 1) * 7) = (bkCells b).take (i * 7) ++ bkCell x := by
    show (rw0.take (i * 7) ++ bkCell x ++ rw0.drop (i * 7 + (bkCell x).length)).take ((i + 1) * 7) = _
    rw [h1, List.take_append_of_le_length (by rw [List.length_append, htl, bkCell_len]; omega), List.take_of_length_le (by rw [List.length_append, htl, bkCell_len]; omega)]
  rw [t1]
  refine ⟨?_, ?_, hc1⟩
  · rw [bkCells_ins x (by omega), List.take_append_of_le_length (by rw [List.length_append, List.length_append, htl, hdl, bkCell_len]; omega)]
    apply List.take_of_length_le
    rw [List.length_append, List.length_append, htl, hdl, bkCell_len]
    omega
  · rw [List.length_append, List.length_append, List.length_append, htl, hdl, bkCell_len, List.length_drop, hc1]
    omega
set_option maxRecDepth 100000 in
set_option maxHeartbeats 4000000 in
theorem Insert_grow (w : World) (B g L : Nat) (b : BL) (n : Nat) (x : Bk) (cur : Array Value) (hn : n = b.length) (h12 : n ≤ 12) (i : Nat) (hi : i < n) (hg : w.heap[g]? = some (.cells cur 60 (0, 0))) (ht : cur.toList.take (n * 7) = bkCells b) (hB : B ≤ w.heap.size)
    (hL : w.heap[L]? = some (.cells (bkCell x).toArray 60 (0, 0))) :
    Calls Tryz.prog 180 #[.slice (some ⟨g, 0, none⟩) n n, .int .i64 (i : Int), .slice (some ⟨L, 0, none⟩) 1 1] w fun e w' => InsAns w w' e B n none (insB b i x) := by
  have hbl : (bkCells b).length = n * 7 := by rw [bkCells_length, hn]
  have hrow : ∀ j v, (bkCells b)[j]? = some v → w.cell? ⟨g, j, none⟩ = some v := fun j v hj => by
    rw [cell_of_row w g j _ _ _ hg, ← Array.getElem?_toList]
    rw [← ht, List.getElem?_take] at hj
    split at hj
    · exact hj
    · cases hj
  have hgw : g < w.heap.size := (Array.getElem?_eq_some_iff.1 hg).1
  have hLw : L < w.heap.size := (Array.getElem?_eq_some_iff.1 hL).1
  obtain ⟨i0, hi0, e⟩ := Option.map_eq_some_iff.1 infoBook
  simp only [Prod.mk.injEq] at e
  obtain ⟨z1, z2, z3⟩ := e
  have hold : (Builtin.firstCells i0.size i (.slice (some ⟨g, 0, none⟩) i n)).run Tryz.prog w.drew = .ok ((bkCells b).take (i * 7)).toArray w.drew := by
    rw [z2]
    refine run_firstCells_some w.drew 7 i ⟨g, 0, none⟩ i n ((bkCells b).take (i * 7)) (by rw [List.length_take, hbl]; omega) fun j v hj => ?_
    rw [Addr.add_lit, Nat.zero_add]
    rw [List.getElem?_take] at hj
    split at hj
    · exact hrow j v hj
    · cases hj
  obtain ⟨K, hK⟩ : ∃ K, K = grownCap w (n + 1) n 60 := ⟨_, rfl⟩
  have hKn : n + 1 ≤ K := by rw [hK]; exact grownCap_ge w _ _ _
  have hKm : K ≤ maxLen := by rw [hK]; exact grownCap_le_maxLen w (n + 1) n 60 (by unfold maxLen; omega)
  obtain ⟨ROW, hROW⟩ : ∃ ROW : Array Value, ROW = ((bkCells b).take (i * 7)).toArray ++ Builtin.zeroCells zeroB.cells (n + 1 - i) ++ Builtin.zeroCells zeroB.cells (K - (n + 1)) := ⟨_, rfl⟩
  obtain ⟨W1, hW1⟩ : ∃ W1, W1 = w.drew.alloc (.cells ROW 60) := ⟨_, rfl⟩
  have hrz : (Builtin.append_ #[38, 3] 38 #[.slice (some ⟨g, 0, none⟩) i n, .int .i64 ((n : Int) + 1 - (i : Int))]).run Tryz.prog w = .ok (.slice (some ⟨w.heap.size, 0, none⟩) (n + 1) K) W1 := by
    have h := Lib.run_append_grow_zeros (P := Tryz.prog) w 38 3 38 60 i0 _ .i64 .i64 Tryz.underlying38 Tryz.underlying3 hi0 z1 (some ⟨g, 0, none⟩) i n ((bkCells b).take (i * 7)) hold (n + 1 - i) (by omega) (by omega) (by omega) (by omega) (by rw [z3]; omega) (by rw [z3, show i + (n + 1 - i) = n + 1 by omega]; exact growslice_fits (by omega) (by omega))
    rw [show i + (n + 1 - i) = n + 1 by omega] at h
    rw [show (n : Int) + 1 - (i : Int) = ((n + 1 - i : Nat) : Int) by omega, hW1, hROW, hK]
    exact h
  have hRl : ROW.toList.length = K * 7 := by
    rw [hROW]
    simp [hbl]
    have := zeros_len (n + 1 - i)
    have := zeros_len (K - (n + 1))
    simp at *
    omega
  have hR1 : ROW.toList.take (i * 7) = (bkCells b).take (i * 7) := by
    rw [hROW]
    simp only [Array.toList_append, List.append_assoc]
    rw [List.take_append_of_le_length (by simp [hbl]; omega)]
    apply List.take_of_length_le
    simp
    omega
  obtain ⟨f1, f2, f3⟩ := grow_cells x hn (Nat.le_of_lt hi) hKn ROW.toList hRl hR1
  obtain ⟨c1, hc1⟩ : ∃ c1, c1 = ROW.toList.take (i * 7) ++ bkCell x ++ ROW.toList.drop (i * 7 + (bkCell x).length) := ⟨_, rfl⟩
  simp only [← hc1] at f1 f2 f3
  have hN1 : W1.heap[w.heap.size]? = some (.cells ROW 60 (0, 0)) := by rw [hW1]; exact heap_alloc_new w.drew _
  have hL1 : W1.heap[L]? = some (.cells (bkCell x).toArray 60 (0, 0)) := by rw [hW1]; exact (Below.heap_alloc w.drew _ L hLw).trans hL
  have hg1 : W1.heap[g]? = some (.cells cur 60 (0, 0)) := by rw [hW1]; exact (Below.heap_alloc w.drew _ g hgw).trans hg
  obtain ⟨W2, hW2⟩ : ∃ W2, W2 = W1.setRow w.heap.size c1.toArray := ⟨_, rfl⟩
  have hcpA : (Builtin.copy_ #[38, 38] 3 #[.slice (some ⟨w.heap.size, i * 7, none⟩) (n + 1 - i) (K - i), .slice (some ⟨L, 0, none⟩) 1 1]).run Tryz.prog W1 = .ok (goInt (Nat.min 1 (n + 1 - i))) W2 := by
    rw [hW2, hc1]
    refine copy_bks W1 3 w.heap.size (i * 7) (n + 1 - i) (K - i) ⟨L, 0, none⟩ 1 1 ROW _ hN1 ?_ ?_ ?_ (bkCell_ones x)
    · rw [bkCell_len]
      have : Nat.min 1 (n + 1 - i) = 1 := by simp only [Nat.min_def]; split <;> omega
      rw [this]
    · intro j v hj
      rw [Addr.add_lit, Nat.zero_add, cell_of_row W1 L j _ _ _ hL1]
      simpa using hj
    · rw [bkCell_len]
      rw [Array.length_toList] at hRl
      omega
  have hN2 : W2.heap[w.heap.size]? = some (.cells c1.toArray 60 (0, 0)) := by rw [hW2]; exact setRow_heap W1 _ ROW _ _ _ hN1
  have hg2 : W2.heap[g]? = some (.cells cur 60 (0, 0)) := by rw [hW2]; exact (setRow_other W1 _ g _ (by omega)).trans hg1
  have hdl : ((bkCells b).drop (i * 7)).length = (n - i) * 7 := by rw [List.length_drop, hbl]; omega
  obtain ⟨W3, hW3⟩ : ∃ W3, W3 = W2.drew.setRow w.heap.size (c1.toArray.toList.take ((i + 1) * 7) ++ (bkCells b).drop (i * 7) ++ c1.toArray.toList.drop ((i + 1) * 7 + ((bkCells b).drop (i * 7)).length)).toArray := ⟨_, rfl⟩
  have hcpB : (Builtin.copy_ #[38, 38] 3 #[.slice (some ⟨w.heap.size, (i + 1) * 7, none⟩) (n - i) (K - (i + 1)), .slice (some ⟨g, i * 7, none⟩) (n - i) (n - i)]).run Tryz.prog W2.drew = .ok (goInt (Nat.min (n - i) (n - i))) W3 := by
    rw [hW3]
    refine copy_bks W2.drew 3 w.heap.size ((i + 1) * 7) (n - i) (K - (i + 1)) ⟨g, i * 7, none⟩ (n - i) (n - i) c1.toArray _ hN2 ?_ ?_ ?_ (fun v hv => bkCells_one b v (List.mem_of_mem_drop hv))
    · rw [hdl]
      congr 1
      exact (Nat.min_self _).symm
    · intro j v hj
      rw [List.getElem?_drop] at hj
      rw [Addr.add_lit]
      have h1 := hrow _ v hj
      rw [cell_of_row w g _ _ _ _ hg] at h1
      show W2.cell? ⟨g, i * 7 + j, none⟩ = some v
      rw [cell_of_row W2 g _ _ _ _ hg2]
      exact h1
    · rw [hdl]
      simp [f3]
      omega
  have HFIN : Hid (W3.ownsRow B 60 7 (.slice (some ⟨w.heap.size, 0, none⟩) (n + 1) K) (n + 1) (bkCells (insB b i x)) ∧ w.grownBy W3 none) := by
    refine hid ⟨⟨by rw [bkCells_length, insB_len x (by omega)]; omega, .inr ⟨w.heap.size, K, _, rfl, hB, by rw [hW3]; exact setRow_heap W2.drew _ _ _ _ _ hN2, hKn, hKm, by simpa using f2, by simpa using f1⟩⟩, ?_⟩
    refine ⟨by rw [hW3, hW2, hW1]; rfl, by rw [hW3, hW2, hW1]; rfl, by rw [hW3, hW2, hW1]; rfl, by rw [hW3, hW2, hW1]; simp [World.setRow], fun y hy _ => ?_⟩
    rw [hW3, setRow_other _ _ y _ (by omega)]
    show W2.heap[y]? = _
    rw [hW2, setRow_other _ _ y _ (by omega), hW1]
    exact Below.heap_alloc w.drew _ y hy
  have hz2 : ¬ ((i : Int) = (n : Int)) := by omega
  have hz3 : ((n : Int) < (n : Int) + 1) := by omega
  have hw1 : IntKind.i64.wrap ((i : Int) + 1) = (i : Int) + 1 := by rw [IntKind.wrap_i64]; omega
  have hb1 : (0 : Int) ≤ (i : Int) + 1 := by omega
  have hin : i ≤ n := by omega
  have htn : ((i : Int) + 1).toNat = i + 1 := by omega
  have hb2 : ¬ (K = i + 1) := by omega
  have hb3 : (i : Int) ≤ (n : Int) := by omega
  have hb4 : ¬ (K = i) := by omega
  have hb5 : ¬ (n = i) := by omega
  have hKb : K ≤ 9223372036854775807 := by unfold maxLen at hKm; omega
  obtain ⟨N, hN⟩ : ∃ N, w.heap.size = N := ⟨_, rfl⟩
  rw [hN] at hrz hcpA hcpB HFIN
  have HN := hid hN
  clear hW3 hW2 hW1 hg1 hL1 hN1 hN2 hg2 f1 f2 f3 hc1 hrow hdl hbl hL hg ht hn hRl hR1 hROW hold z1 z2 z3 hi0 hK hN hgw hLw hB
  go_enter Tryz.func180, Tryz.ntmps180
  go_wp2_with (at_builtin; refine Lib.wpList_append_run _ rfl _ _ _ _ rfl _ _ rfl rfl _ _ hrz ?_)
  go_region
  go_wp2
  go_ret
  exact ⟨N, K, rfl, HFIN.out.1, HFIN.out.2, Or.inr (Nat.le_of_eq HN.out)⟩
theorem ins_end {b : BL} {n : Nat} (x : Bk) (hn : n = b.length) : insB b n x = b ++ [x] := by
  unfold insB
  rw [hn, List.take_length, List.drop_length]
set_option maxRecDepth 100000 in
set_option maxHeartbeats 2000000 in
theorem Insert_end (w : World) (B L : Nat) (v : Value) (b : BL) (n : Nat) (x : Bk) (hn : n = b.length) (h12 : n ≤ 12) (hown : w.ownsRow B 60 7 v n (bkCells b)) (hB : B ≤ w.heap.size)
    (hL : w.heap[L]? = some (.cells (bkCell x).toArray 60 (0, 0))) :
    Calls Tryz.prog 180 #[v, .int .i64 (n : Int), .slice (some ⟨L, 0, none⟩) 1 1] w fun e w' => InsAns w w' e B n v.ownBlock (insB b n x) := by
  obtain ⟨i0, hi0, e⟩ := Option.map_eq_some_iff.1 infoBook
  simp only [Prod.mk.injEq] at e
  obtain ⟨z1, z2, z3⟩ := e
  obtain ⟨g9, k9, w', hrun, ho, hgr, hfr, _⟩ := run_append_lies w 38 38 B 60 i0 _ 7 88 Tryz.underlying38 hi0 z1 z2 z3 (by rfl) (by omega) v n (bkCells b) hown ⟨L, 0, none⟩ 1 1 (bkCells [x]) rfl (fun j u hj => by
    rw [Addr.add_lit, Nat.zero_add, cell_of_row w L j _ _ _ hL]
    simpa [bkCells] using hj) (bkCells_one [x]) (by omega) (by unfold maxLen; omega) (by omega) hB w.heap.size rfl
  rw [← bkCells_app, ← ins_end x hn] at ho
  have HF : Hid (w'.ownsRow B 60 7 (.slice (some ⟨g9, 0, none⟩) (n + 1) k9) (n + 1) (bkCells (insB b n x)) ∧ w.grownBy w' v.ownBlock ∧ (v.ownBlock = some g9 ∨ w.heap.size ≤ g9)) := hid ⟨ho, hgr, hfr.imp id (fun e => Nat.le_of_eq e.symm)⟩
  rcases hown.2 with ⟨rfl, rfl⟩ | ⟨g, k, cur, rfl, _, _, hle, hkm, _, _⟩
  · clear ho hgr hown hn hL hfr z1 z2 z3 hi0
    go_enter Tryz.func180, Tryz.ntmps180
    go_wp2_with (at_builtin; refine Lib.wpList_append_run _ rfl _ _ _ _ rfl _ _ rfl rfl _ _ hrun ?_)
    go_ret
    exact ⟨g9, k9, rfl, HF.out⟩
  · have hkb : k ≤ 9223372036854775807 := by unfold maxLen at hkm; omega
    clear ho hgr hown hn hL hfr z1 z2 z3 hi0
    go_enter Tryz.func180, Tryz.ntmps180
    go_wp2_with (at_builtin; refine Lib.wpList_append_run _ rfl _ _ _ _ rfl _ _ rfl rfl _ _ hrun ?_)
    all_goals
      go_ret
      exact ⟨g9, k9, rfl, HF.out⟩
theorem Insert_own (w : World) (B L : Nat) (v : Value) (b : BL) (n : Nat) (x : Bk) (hn : n = b.length) (h12 : n ≤ 12) (hown : w.ownsRow B 60 7 v n (bkCells b)) (hB : B ≤ w.heap.size)
    (hL : w.heap[L]? = some (.cells (bkCell x).toArray 60 (0, 0))) (hne : v.ownBlock ≠ some L) (i : Nat) (hi : i ≤ n) :
    Calls Tryz.prog 180 #[v, .int .i64 (i : Int), .slice (some ⟨L, 0, none⟩) 1 1] w fun e w' => InsAns w w' e B n v.ownBlock (insB b i x) := by
  by_cases e : i = n
  · subst e
    exact Insert_end w B L v b i x hn h12 hown hB hL
  · have hlt : i < n := by omega
    rcases hown.2 with ⟨rfl, rfl⟩ | ⟨g, k, cur, rfl, hBg, hg, hle, hkm, hcs, ht⟩
    · omega
    · by_cases hk : n + 1 ≤ k
      · refine (Insert_shift w B g k L b n x cur hn h12 i hlt hk hkm hg hcs ht hBg hL (fun e => hne (by rw [e]; rfl))).mono ?_
        rintro e w' ⟨rfl, h1, h2⟩
        exact ⟨g, k, rfl, h1, h2, Or.inl rfl⟩
      · obtain rfl : k = n := by omega
        refine (Insert_grow w B g L b k x cur hn h12 i hlt hg ht hB hL).mono ?_
        rintro e w' ⟨g', k', rfl, h1, h2, h3⟩
        refine ⟨g', k', rfl, h1, ⟨h2.os, h2.tape, h2.output, h2.size, fun y hy _ => h2.block y hy (by simp)⟩, Or.inr ?_⟩
        rcases h3 with h3 | h3
        · cases h3
        · exact h3
end Go.Proofs.YtckpdfkobdgjeaaGreatDoor
