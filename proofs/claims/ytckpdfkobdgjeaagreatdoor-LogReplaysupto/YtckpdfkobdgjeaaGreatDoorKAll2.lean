/- Several texts in one: RoomAll, PlanM. -/
import Derived.Test.YtckpdfkobdgjeaaGreatDoorKLoadAll
import Derived.Test.YtckpdfkobdgjeaaGreatDoorKAnyJ
import Derived.Test.YtckpdfkobdgjeaaGreatDoorKPlaceAll
namespace Go.Proofs.YtckpdfkobdgjeaaGreatDoor
open Go.RowKit Go.Shelf
attribute [local go_sem] Oper.semAt_some
set_option maxHeartbeats 400000 in
theorem Lesser_new (w : World) (a1 a2 : Option Addr) (n1 n2 cap1 cap2 : Nat) (l1 l2 : RunL) (h1 : RunsIn w a1 n1 cap1 l1) (h2 : RunsIn w a2 n2 cap2 l2) :
   Calls Tryz.prog 172 #[.slice a1 n1 cap1, .slice a2 n2 cap2] w fun e w' => GivesN w w' e (joinR (fun x y => min x y) l1 l2) := by
  cases hf : (fine l1 && fine l2) with
  | false =>
    have hr : joinR (fun x y => min x y) l1 l2 = ([], 1) := by simp only [joinR, hf]; rfl
    rw [hr]
    have hk : (if (fine l1 && fine l2) = true then (0 : Int) else 1) = 1 := by rw [hf]; rfl
    go_enter Tryz.func172, Tryz.ntmps172
    go_wp2_with fail
    refine (checkBoth_any _ _ _ _ _ _ _ l1 l2 h1 h2).mono ?_
    rintro e w1 ⟨rfl, hb⟩
    rw [hk]
    go_wp2
    go_ret2
    exact givesN_err hb
  | true =>
    have hr : joinR (fun x y => min x y) l1 l2 = tell (jv (fun x y => min x y) l1 l2) := by simp only [joinR, hf]; rfl
    rw [hr]
    have hk : (if (fine l1 && fine l2) = true then (0 : Int) else 1) = 0 := by rw [hf]; rfl
    rw [Bool.and_eq_true] at hf
    have F1 := hid (fine_iff.1 hf.1)
    have F2 := hid (fine_iff.1 hf.2)
    obtain ⟨r, hr2⟩ : ∃ r, r = tell (jv (fun x y => min x y) l1 l2) := ⟨_, rfl⟩
    rw [← hr2]
    have HR := hid hr2
    clear hr2 hr hf
    go_enter Tryz.func172, Tryz.ntmps172
    go_wp2_with fail
    refine (checkBoth_any _ _ _ _ _ _ _ l1 l2 h1 h2).mono ?_
    rintro e w1 ⟨rfl, hb⟩
    rw [hk]
    go_wp2_with fail
    have hl := lay_givesN 188 _ joins49 w1 a1 a2 n1 cap1 n2 cap2 l1 l2 (h1.later hb) (h2.later hb) F1.out.rises F2.out.rises (fun i hi => F1.out.bdd (by rw [← h1.len]; exact hi)) (fun i hi => F2.out.bdd (by rw [← h2.len]; exact hi))
    rw [← HR.out] at hl
    refine hl.mono ?_
    clear hl
    rintro e w2 ⟨a, n, cap, rfl, hr, hb2, hnew⟩
    go_wp2
    go_ret2
    exact ⟨a, n, cap, rfl, hr, below_from hb hb2, fun b off e => by have h1 := hnew b off e; have h2 := hb.size; omega⟩
def roomTo (l : QL) (T : Nat → RunL) (f : RunL) : List Int → RunL
  | [] => f
  | p :: ps => roomTo l T (joinR (fun x y => min x y) f (joinR (fun x y => x - y) (qu l p.toNat).runs (T p.toNat)).1).1 ps
theorem roomTo_more (l : QL) (T : Nat → RunL) : ∀ (ps : List Int) (f : RunL) (p : Int), roomTo l T f (ps ++ [p]) = (joinR (fun x y => min x y) (roomTo l T f ps) (joinR (fun x y => x - y) (qu l p.toNat).runs (T p.toNat)).1).1
  | [], f, p => rfl
  | y :: ps, f, p => by rw [List.cons_append, roomTo, roomTo_more l T ps _ p]; rfl
theorem row_one {W : World} {B : Nat} {v : Value} (h : Boxed W B 25 v) : W.rowIs B 25 1 (fun _ => v) := by
  refine ⟨#[v], h, rfl, fun i hi => ?_⟩
  obtain rfl : i = 0 := by omega
  rfl
def roomR (l : QL) (b : BL) (q : Int) : RunL := roomTo l (takenTo l b b.length) [(0, 1048576)] (lineOf l q)
set_option maxRecDepth 100000 in
set_option maxHeartbeats 4000000 in
theorem RoomOf_ok (w : World) (a : Option Addr) (n cap : Nat) (l : QL) (hl : QsIn w a n cap l) (ba : Option Addr) (bn bc : Nat) (b : BL) (hb : BksIn w ba bn bc b) (q : Int) (hc : chkL l b = 0) (hq0 : 0 ≤ q) (hq1 : q < n) :
    Calls Tryz.prog 139 #[.slice a n cap, .slice ba bn bc, .int .i64 q] w fun e w' => Gives w w' e (roomR l b q, 0) := by
  have HN := hid hl.len
  have hcb := hl.capb
  have hle := hl.le
  have ht := (no_error hc).1
  have HR := hid (right_of ht)
  have hp : 0 < n := by have := HR.out.pos; have := HN.out; omega
  obtain ⟨qb, qo, rfl, hcell⟩ := hl.cells hp
  have hblt : qb < w.heap.size := block_lt_of_cell (hcell 0 hp).1
  have HC := hid hcell
  have HL := hid hl
  have hb0 : Below w.heap.size w (w.alloc (.cells #[.slice (some ⟨qb, qo, none⟩) n cap] 37)) := (Below.refl _ _).alloc (Nat.le_refl _) _
  have hK := Of_any _ _ n cap l (hl.later hb0) ba bn bc b (hb.later hb0)
  rw [hc] at hK
  have HK := hid hK
  have HB0 := hid hb0
  have HRR : Hid (roomR l b q = roomTo l (takenTo l b b.length) [(0, 1048576)] (lineOf l q)) := rfl
  obtain ⟨TT, hTT⟩ : ∃ TT, takenTo l b b.length = TT := ⟨_, rfl⟩
  rw [hTT] at HK HRR
  have hq0' : ¬ q < 0 := by omega
  have hq1' : ¬ (n : Int) ≤ q := by omega
  have bL0 : Hid (Boxed (w.alloc (.cells #[.slice (some ⟨qb, qo, none⟩) n cap] 37)) w.heap.size 37 (.slice (some ⟨qb, qo, none⟩) n cap)) := Boxed.new w 37 (.slice (some ⟨qb, qo, none⟩) n cap)
  have cL0 := bL0.out.cell
  clear hcell hl hb hc ht hK hb0 hTT
  refine (callsIn_wide (n := 4)).1 ?_
  refine callsIn_of_wp_marks Tryz.func139 rfl trivial ?_ rfl
  simp only [Tryz.ntmps139, List.size_toArray, List.length_cons, List.length_nil, Nat.reduceAdd, Nat.reduceSub, Array.replicate_succ, Array.replicate_zero, List.push_toArray, List.append_toArray, List.nil_append, List.cons_append]
  gi_wp2_with fail
  refine ⟨trivial, (callsIn_wide.2 HK.out).mono ?_⟩
  rintro e w1 ⟨a1, m1, k1, rfl, ht, _, B1⟩
  obtain ⟨G, rfl, rfl, rfl, htk⟩ := ht rfl
  have HT := hid htk
  have HB1 := hid (below_from HB0.out B1)
  have bL1 : Hid (Boxed w1 w.heap.size 37 (.slice (some ⟨qb, qo, none⟩) n cap)) := (B1.block _ (by simp)).trans bL0.out
  have cL1 := bL1.out.cell
  have hsz1 : w.heap.size < w1.heap.size := bL1.out.lt
  have hsz2 : w.heap.size < w1.heap.size + 1 := by omega
  have hsz3 : w.heap.size < w1.heap.size + 1 + 1 := by omega
  have hne1 : ¬ w.heap.size = w1.heap.size := by omega
  have hne2 : ¬ w.heap.size = w1.heap.size + 1 := by omega
  have hne3 : ¬ w.heap.size = w1.heap.size + 1 + 1 := by omega
  clear ht htk B1 cL0
  gi_wp2_with fail
  refine ⟨trivial, (up_in Fence.wide _ trivial rfl _ _ _ ⟨_, _, _, rfl⟩).mono ?_⟩
  rintro e w2 ⟨rfl, rfl⟩
  gi_wp2_with fail
  have bJ := Boxed.new ((((w1.alloc (.cells #[.slice (some ⟨G, 0, none⟩) n n] 97)).alloc (.cells #[.int .i64 0, .int .i64 1048576] 55)).alloc (.cells #[.slice (some ⟨w1.heap.size + 1, 0, none⟩) 1 1] 25)).alloc (.cells #[.slice (some ⟨qb, qo, none⟩) n cap] 37)) 3 (.int .i64 q)
  have bL := (Boxed.new (((w1.alloc (.cells #[.slice (some ⟨G, 0, none⟩) n n] 97)).alloc (.cells #[.int .i64 0, .int .i64 1048576] 55)).alloc (.cells #[.slice (some ⟨w1.heap.size + 1, 0, none⟩) 1 1] 25)) 37 (.slice (some ⟨qb, qo, none⟩) n cap)).alloc (.cells #[.int .i64 q] 3)
  have bX := ((Boxed.new ((w1.alloc (.cells #[.slice (some ⟨G, 0, none⟩) n n] 97)).alloc (.cells #[.int .i64 0, .int .i64 1048576] 55)) 25 (.slice (some ⟨w1.heap.size + 1, 0, none⟩) 1 1)).alloc (.cells #[.slice (some ⟨qb, qo, none⟩) n cap] 37)).alloc (.cells #[.int .i64 q] 3)
  have bT := (((((Boxed.new w1 97 (.slice (some ⟨G, 0, none⟩) n n)).alloc (.cells #[.int .i64 0, .int .i64 1048576] 55)).alloc (.cells #[.slice (some ⟨w1.heap.size + 1, 0, none⟩) 1 1] 25)).alloc (.cells #[.slice (some ⟨qb, qo, none⟩) n cap] 37)).alloc (.cells #[.int .i64 q] 3))
  have rI := runs_lit (w1.alloc (.cells #[.slice (some ⟨G, 0, none⟩) n n] 97)) [(0, 1048576)] #[.int .i64 0, .int .i64 1048576] 1 rfl rfl (by decide)
  have hbI : Below ((w1.alloc (.cells #[.slice (some ⟨G, 0, none⟩) n n] 97)).alloc (.cells #[.int .i64 0, .int .i64 1048576] 55)).heap.size ((w1.alloc (.cells #[.slice (some ⟨G, 0, none⟩) n n] 97)).alloc (.cells #[.int .i64 0, .int .i64 1048576] 55)) (((((w1.alloc (.cells #[.slice (some ⟨G, 0, none⟩) n n] 97)).alloc (.cells #[.int .i64 0, .int .i64 1048576] 55)).alloc (.cells #[.slice (some ⟨w1.heap.size + 1, 0, none⟩) 1 1] 25)).alloc (.cells #[.slice (some ⟨qb, qo, none⟩) n cap] 37)).alloc (.cells #[.int .i64 q] 3)) := (((Below.refl _ _).alloc (Nat.le_refl _) _).alloc (by simp) _).alloc (by simp only [World.size_alloc]; omega) _
  replace rI := rI.later hbI
  simp only [World.size_alloc] at bJ bL bX rI
  have hB0 : Below w1.heap.size w1 (((((w1.alloc (.cells #[.slice (some ⟨G, 0, none⟩) n n] 97)).alloc (.cells #[.int .i64 0, .int .i64 1048576] 55)).alloc (.cells #[.slice (some ⟨w1.heap.size + 1, 0, none⟩) 1 1] 25)).alloc (.cells #[.slice (some ⟨qb, qo, none⟩) n cap] 37)).alloc (.cells #[.int .i64 q] 3)) := (((((Below.refl _ w1).alloc (Nat.le_refl _) _).alloc (by simp) _).alloc (by simp only [World.size_alloc]; omega) _).alloc (by simp only [World.size_alloc]; omega) _).alloc (by simp only [World.size_alloc]; omega) _
  have hsz : (((((w1.alloc (.cells #[.slice (some ⟨G, 0, none⟩) n n] 97)).alloc (.cells #[.int .i64 0, .int .i64 1048576] 55)).alloc (.cells #[.slice (some ⟨w1.heap.size + 1, 0, none⟩) 1 1] 25)).alloc (.cells #[.slice (some ⟨qb, qo, none⟩) n cap] 37)).alloc (.cells #[.int .i64 q] 3)).heap.size = w1.heap.size + 5 := by simp
  obtain ⟨W0, hW0⟩ : ∃ W0, ((((w1.alloc (.cells #[.slice (some ⟨G, 0, none⟩) n n] 97)).alloc (.cells #[.int .i64 0, .int .i64 1048576] 55)).alloc (.cells #[.slice (some ⟨w1.heap.size + 1, 0, none⟩) 1 1] 25)).alloc (.cells #[.slice (some ⟨qb, qo, none⟩) n cap] 37)).alloc (.cells #[.int .i64 q] 3) = W0 := ⟨_, rfl⟩
  rw [hW0] at hsz hB0 bJ bL bX bT rI ⊢
  clear hW0 hbI hsz2 hsz3 hne1 hne2 hne3 cL1
  obtain ⟨S, hS⟩ : ∃ S, w1.heap.size = S := ⟨_, rfl⟩
  rw [hS] at hsz bJ bL bX bT rI hsz1 ⊢
  have HS := hid hS
  have HB0' := hid hB0
  clear hS hB0
  have tk0 : Tk W0 W0 (S + 1 + 1) 1 (fun _ => roomTo l TT [(0, 1048576)] []) := ⟨rfl, rfl, rfl, Nat.le_refl _, fun _ _ _ => rfl, fun _ => .slice (some ⟨S + 1, 0, none⟩) 1 1, row_one bX, fun q hq => ⟨_, 1, 1, rfl, rI, fun b off e => by cases e; omega⟩⟩
  have HTK0 := hid tk0
  have HCE : Hid (∀ i, i < n → W0.cell? ⟨qb, qo + i * 3 + 1, none⟩ = some (.int .i64 (qu l i).parent)) := fun i hi => cell_later HB0'.out (cell_later HB1.out (HC.out i hi).2.1)
  have hqbS : qb < S := by have := HB1.out.size; have := HS.out; omega
  clear tk0 rI bX
  refine wpIn_rangeFunc_ownG (F := Fence.wide) rfl (by omega) (gf := 130) (lb := #[.pointer (some ⟨S + 1 + 1 + 1 + 1, 0, none⟩), .pointer (some ⟨S + 1 + 1 + 1, 0, none⟩)]) rfl trivial (enters_of Tryz.func130 (by kernel_rfl) rfl)
    (upQ_stops Fence.wide _ trivial rfl (by omega) (S + 1 + 1 + 1 + 1) (S + 1 + 1 + 1) S qb qo n cap l q HR.out HN.out (by omega) W0 bJ bL (by omega) hqbS HCE.out)
    KeepsL.trans (keepsL_b (by omega)) (Below.refl _ _) (fun _ => rfl)
    (fun pre W' => Tk W0 W' (S + 1 + 1) 1 (fun _ => roomTo l TT [(0, 1048576)] (pre.map (·.1))))
    (fun _ _ _ => False)
    (Tk.own (Nat.le_refl _) (by omega))
    (fun c s X Y row h _ _ => h)
    HTK0.out
    (fun x => { tmps := #[.slice (some ⟨qb, qo, none⟩) n cap, .slice ba bn bc, .int .i64 q, .pointer (some ⟨w.heap.size, 0, none⟩), undef, undef, .slice none 0 0, .int .i64 0, .pointer (some ⟨S, 0, none⟩), .int .i64 0, .pointer (some ⟨S + 1 + 1, 0, none⟩), .int .i64 x.1, undef, undef, .tuple #[.slice (some ⟨G, 0, none⟩) n n, .int .i64 0], .slice (some ⟨qb, qo, none⟩) n cap, .slice ba bn bc, .tuple #[.slice (some ⟨G, 0, none⟩) n n, .int .i64 0], .slice (some ⟨G, 0, none⟩) n n, .int .i64 0, .int .i64 0, .bool false, undef, .int .i64 q, .bool (decide (q < 0)), .bool (decide (q < 0)), .int .i64 q, .slice (some ⟨qb, qo, none⟩) n cap, .int .i64 n, .bool (decide ((n : Int) ≤ q)), .bool (decide (q < 0) || decide ((n : Int) ≤ q)), .agg #[.int .i64 0, .int .i64 1048576], .slice (some ⟨S + 1, 0, none⟩) 1 1, .slice (some ⟨qb, qo, none⟩) n cap, .int .i64 q, .func (.func 130) #[] #[.pointer (some ⟨S + 1 + 1 + 1 + 1, 0, none⟩), .pointer (some ⟨S + 1 + 1 + 1, 0, none⟩)], .int .i64 x.1, undef, undef, undef, undef, undef, undef, undef, undef, undef, undef, undef, undef, undef, undef, undef, undef, undef, undef, undef, undef], defers := [] }) ?assign ?body ?done ?stop
  case assign =>
    intro l x W K hK
    gi_wp2
    exact hK
  case body =>
    rintro lp pre x W' hTk hltp
    obtain ⟨x, hx0, hx1⟩ := x
    obtain ⟨P, rfl⟩ := Int.eq_ofNat_of_zero_le hx0
    have hPn : P < n := by omega
    have hPn' : (P : Int) < n := by omega
    have hszW' : W0.heap.size ≤ W'.heap.size := hTk.size
    have hw1 : Below w1.heap.size w1 W' := HB0'.out.trans (hTk.below (B := w1.heap.size) (by have := HS.out; omega) (by omega))
    have hwW : Below w.heap.size w W' := below_from HB1.out hw1
    have CL := hid (cell_later hw1 bL1.out.cell)
    have CT := hid (hTk.box bT (by omega)).cell
    have CQ := hid (cell_later hwW (HC.out P hPn).2.2)
    obtain ⟨ta, tn, tc, hg1, hg2⟩ := HT.out.later hw1 P hPn
    have CG := hid hg1
    have hcr := (HL.out.caps P hPn).later hwW
    have KM := hid fun Y (hY : Below W'.heap.size W' Y) => Minus_any Y (qu l P).ca ta (qu l P).cn tn (qu l P).cc tc (qu l P).runs (TT P) (hcr.later hY) (hg2.later hY)
    obtain ⟨J, hJ⟩ : ∃ J, joinR (fun x y => x - y) (qu l P).runs (TT P) = J := ⟨_, rfl⟩
    rw [hJ] at KM
    have HJ := hid hJ
    obtain ⟨ca, hca⟩ : ∃ ca, (qu l P).ca = ca := ⟨_, rfl⟩
    obtain ⟨cn, hcn⟩ : ∃ cn, (qu l P).cn = cn := ⟨_, rfl⟩
    obtain ⟨cc, hcc⟩ : ∃ cc, (qu l P).cc = cc := ⟨_, rfl⟩
    rw [hca, hcn, hcc] at CQ KM
    obtain ⟨ax, mx, kx, hx2, hx3, hx4, hx5⟩ := hTk.at (q := 0) (by omega)
    have CX := hid hx2
    have FX := hid hx3
    have RX := hid hx4
    have HTK2 := hid hTk
    clear hTk hg1 hg2 hcr hJ hca hcn hcc hx2 hx3 hx4 hx5 hw1 hwW
    gi_wp2_with fail
    refine wpIn_region_des ((Tryz.f139.body.bind fun c => regOps c 9).getD #[]) (by kernel_rfl) [isV (.slice (some ⟨qb, qo, none⟩) n cap), isV (.int .i64 P), isV (.pointer (some ⟨qb, qo + P * 3, none⟩)), isV (.pointer (some ⟨qb, qo + P * 3 + 2, none⟩)), isV (.slice ca cn cc), isV (.slice (some ⟨G, 0, none⟩) n n), isV (.int .i64 P), isV (.pointer (some ⟨G, P, none⟩)), isV (.slice ta tn tc), ⟨fun v X => ∃ a n cap, v = .tuple #[.slice a n cap, .int .i64 J.2] ∧ RunsIn X a n cap J.1, fun _ X Y ⟨a, n, cap, h1, h2⟩ hb => ⟨a, n, cap, h1, h2.later hb⟩⟩, ⟨fun v X => ∃ a n cap, v = .tuple #[.slice a n cap, .int .i64 J.2] ∧ RunsIn X a n cap J.1, fun _ X Y ⟨a, n, cap, h1, h2⟩ hb => ⟨a, n, cap, h1, h2.later hb⟩⟩, ⟨fun v X => ∃ a n cap, v = .slice a n cap ∧ RunsIn X a n cap J.1, fun _ X Y ⟨a, n, cap, h1, h2⟩ hb => ⟨a, n, cap, h1, h2.later hb⟩⟩, isV (.int .i64 J.2), ⟨fun v X => ∃ a n cap, v = .slice a n cap ∧ RunsIn X a n cap J.1, fun _ X Y ⟨a, n, cap, h1, h2⟩ hb => ⟨a, n, cap, h1, h2.later hb⟩⟩, isV (.int .i64 J.2)] [] (by kernel_rfl) (by kernel_rfl) (by kernel_rfl) (by kernel_rfl) ?hg ?hstep ?hfin
    case hg =>
      intro g hg v w h
      cases hg
    case hstep =>
      refine AllOps.cons 1 rfl ?_ ?_
      · intro T w' hb hl hd
        have h0 : T.getD 3 undef = .pointer (some ⟨w.heap.size, 0, none⟩) := hl 3 (by kernel_rfl)
        have cl := cell_later hb CL.out
        exact Or.inl ⟨.slice (some ⟨qb, qo, none⟩) n cap, w', by go_simp, rfl, Below.refl _ _⟩
      refine AllOps.cons 2 rfl ?_ ?_
      · intro T w' hb hl hd
        have h0 : T.getD 11 undef = .int .i64 P := hl 11 (by kernel_rfl)
        exact Or.inl ⟨.int .i64 P, w', by go_simp, rfl, Below.refl _ _⟩
      refine AllOps.cons 3 rfl ?_ ?_
      · intro T w' hb hl hd
        have h0 : T.getD 38 undef = .slice (some ⟨qb, qo, none⟩) n cap := hd 0 38 (by kernel_rfl)
        have h1 : T.getD 39 undef = .int .i64 P := hd 1 39 (by kernel_rfl)
        exact Or.inl ⟨.pointer (some ⟨qb, qo + P * 3, none⟩), w', by go_simp, rfl, Below.refl _ _⟩
      refine AllOps.cons 4 rfl ?_ ?_
      · intro T w' hb hl hd
        have h0 : T.getD 40 undef = .pointer (some ⟨qb, qo + P * 3, none⟩) := hd 2 40 (by kernel_rfl)
        exact Or.inl ⟨.pointer (some ⟨qb, qo + P * 3 + 2, none⟩), w', by go_simp, rfl, Below.refl _ _⟩
      refine AllOps.cons 5 rfl ?_ ?_
      · intro T w' hb hl hd
        have h0 : T.getD 41 undef = .pointer (some ⟨qb, qo + P * 3 + 2, none⟩) := hd 3 41 (by kernel_rfl)
        have cq := cell_later hb CQ.out
        exact Or.inl ⟨.slice ca cn cc, w', by go_simp, rfl, Below.refl _ _⟩
      refine AllOps.cons 6 rfl ?_ ?_
      · intro T w' hb hl hd
        have h0 : T.getD 8 undef = .pointer (some ⟨S, 0, none⟩) := hl 8 (by kernel_rfl)
        have ct := cell_later hb CT.out
        exact Or.inl ⟨.slice (some ⟨G, 0, none⟩) n n, w', by go_simp, rfl, Below.refl _ _⟩
      refine AllOps.cons 7 rfl ?_ ?_
      · intro T w' hb hl hd
        have h0 : T.getD 11 undef = .int .i64 P := hl 11 (by kernel_rfl)
        exact Or.inl ⟨.int .i64 P, w', by go_simp, rfl, Below.refl _ _⟩
      refine AllOps.cons 8 rfl ?_ ?_
      · intro T w' hb hl hd
        have h0 : T.getD 43 undef = .slice (some ⟨G, 0, none⟩) n n := hd 5 43 (by kernel_rfl)
        have h1 : T.getD 44 undef = .int .i64 P := hd 6 44 (by kernel_rfl)
        exact Or.inl ⟨.pointer (some ⟨G, P, none⟩), w', by go_simp, rfl, Below.refl _ _⟩
      refine AllOps.cons 9 rfl ?_ ?_
      · intro T w' hb hl hd
        have h0 : T.getD 45 undef = .pointer (some ⟨G, P, none⟩) := hd 7 45 (by kernel_rfl)
        have cg := cell_later hb CG.out
        exact Or.inl ⟨.slice ta tn tc, w', by go_simp, rfl, Below.refl _ _⟩
      refine AllOps.cons 10 rfl ?_ ?_
      · intro T w' hb hl hd
        have h0 : T.getD 42 undef = .slice ca cn cc := hd 4 42 (by kernel_rfl)
        have h1 : T.getD 46 undef = .slice ta tn tc := hd 8 46 (by kernel_rfl)
        refine Or.inr ⟨137, #[.slice ca cn cc, .slice ta tn tc], by go_simp, ?_⟩
        refine (KM.out w' hb).mono ?_
        rintro e w'' ⟨a9, n9, c9, rfl, hr, hbb⟩
        exact ⟨_, rfl, ⟨a9, n9, c9, rfl, hr⟩, hbb⟩
      refine AllOps.cons 11 rfl ?_ ?_
      · intro T w' hb hl hd
        obtain ⟨a9, n9, c9, h0, hr⟩ := hd 9 47 (by kernel_rfl)
        exact Or.inl ⟨.tuple #[.slice a9 n9 c9, .int .i64 J.2], w', by go_simp, ⟨a9, n9, c9, rfl, hr⟩, Below.refl _ _⟩
      refine AllOps.cons 12 rfl ?_ ?_
      · intro T w' hb hl hd
        obtain ⟨a9, n9, c9, h0, hr⟩ := hd 10 37 (by kernel_rfl)
        exact Or.inl ⟨.slice a9 n9 c9, w', by go_simp, ⟨a9, n9, c9, rfl, hr⟩, Below.refl _ _⟩
      refine AllOps.cons 13 rfl ?_ ?_
      · intro T w' hb hl hd
        obtain ⟨a9, n9, c9, h0, hr⟩ := hd 10 37 (by kernel_rfl)
        exact Or.inl ⟨.int .i64 J.2, w', by go_simp, rfl, Below.refl _ _⟩
      refine AllOps.cons 14 rfl ?_ ?_
      · intro T w' hb hl hd
        obtain ⟨a9, n9, c9, h0, hr⟩ := hd 11 48 (by kernel_rfl)
        exact Or.inl ⟨.slice a9 n9 c9, w', by go_simp, ⟨a9, n9, c9, rfl, hr⟩, Below.refl _ _⟩
      refine AllOps.cons 15 rfl ?_ ?_
      · intro T w' hb hl hd
        have h0 : T.getD 49 undef = .int .i64 J.2 := hd 12 49 (by kernel_rfl)
        exact Or.inl ⟨.int .i64 J.2, w', by go_simp, rfl, Below.refl _ _⟩
      exact trivial
    case hfin =>
      intro T w' hb hs hl hd
      obtain ⟨a9, n9, c9, e12, hr⟩ := hd 13 12 (by kernel_rfl)
      have e13 : T.getD 13 undef = .int .i64 J.2 := hd 14 13 (by kernel_rfl)
      rw [lit_then [true, true, true, true, true, true, true, true, true, true, true, true, false, false, true, true, true, true, true, true, true, true, true, true, true, true, true, true, true, true, true, true, true, true, true, true, true, false, false, false, false, false, false, false, false, false, false, false, false, false, true, true, true, true, true, true, true] (by kernel_rfl) hs hl]
      obtain ⟨us, hus⟩ : ∃ us : Nat → Value, (fun d => T.getD d undef) = us := ⟨_, rfl⟩
      rw [hus]
      have f12 : us 12 = .slice a9 n9 c9 := by rw [← hus]; exact e12
      have f13 : us 13 = .int .i64 J.2 := by rw [← hus]; exact e13
      simp only [fillL, f12, f13]
      have cx := cell_later hb CX.out
      have HB := hid hb
      have HR9 := hid hr
      have hszw' : W'.heap.size ≤ w'.heap.size := hb.size
      clear hb hr hs hl hd e12 e13 f12 f13 hus
      gi_wp2_with fail
      refine ⟨trivial, (calls_round (Lesser_new w' ax a9 mx n9 kx c9 _ J.1 (RX.out.later HB.out) HR9.out)).mono ?_⟩
      rintro e w3 ⟨a3, n3, c3, rfl, hr3, hb3, hnew3⟩
      have cx3 := cell_later hb3 cx
      have fx3 := (World.frozen?_of_block (w := W') (a := ⟨S + 1 + 1, 0, none⟩) ((below_from HB.out hb3).block _ (by show S + 1 + 1 < _; omega))).trans FX.out
      have HB3 := hid (below_from HB.out hb3)
      have HR3 := hid hr3
      have HNW := hid hnew3
      clear hr3 hb3 hnew3 cx
      gi_wp2
      refine ⟨?_, ?_, ?_⟩
      · exact (KeepsOthers.trans (⟨HB3.out.size, fun k o hk _ => (HB3.out.block k (Array.getElem?_eq_some_iff.1 hk).1).trans hk⟩ : KeepsOthers W' w3) (KeepsOthers.setCell _ _ _)).from _
      · exact ⟨(show Below S W' w3 from HB3.out.mono (by omega)).setCell (by show S ≤ S + 1 + 1; omega) _, fun v hv => (Below.heap_setCell _ _ _ _ (by simp only; omega)).trans ((HB3.out.block _ hv.lt).trans hv)⟩
      · have := (HTK2.out.later HB3.out).hit 0 HR3.out (fun b off e => by have := HNW.out b off e; omega)
        exact this.congr fun q hq => by
          rw [if_pos (by omega), List.map_append, List.map_cons, List.map_nil, roomTo_more, Int.toNat_natCast, HJ.out]
  case done =>
    rintro D ys W' hD hys hTk hK
    rw [hys] at hTk
    obtain ⟨ax, mx, kx, hx2, hx3, hx4, hx5⟩ := hTk.at (q := 0) (by omega)
    have HTK3 := hid hTk
    have hw1 : Below w1.heap.size w1 W' := HB0'.out.trans (hTk.below (B := w1.heap.size) (by have := HS.out; omega) (by omega))
    have HBW := hid (below_from HB1.out hw1)
    have RX := hid hx4
    have hsz' : W0.heap.size ≤ W'.heap.size := hTk.size
    clear hTk hys hx3 hx4 hx5 hw1
    gi_wp2
    show LeavesInM _ _ _ _ _ _ (([D] : List Nat).map fun D => { target := .collected D, args := #[] }) _ _
    refine leaves_marksC (S + 5) [D] W' (by omega) (by simp) (fun D' hD' => by simp at hD'; subst hD'; exact ⟨by omega, hK⟩) (fun W2 hb hcl => ?_)
    refine ⟨_, results_tmp2 rfl _ _ _, _, _, _, rfl, by rw [HRR.out]; exact RX.out.kept hcl, HBW.out.trans (hb.mono (by have := HS.out; omega))⟩
  case stop =>
    rintro D c pre W' hD hpre h hK
    cases h
end Go.Proofs.YtckpdfkobdgjeaaGreatDoor
namespace Go.Proofs.YtckpdfkobdgjeaaGreatDoor
open Go.RowKit Go.Shelf
attribute [local go_sem] Oper.semAt_some
def roomE (l : QL) (b : BL) (q : Int) : Int := if chkL l b = 0 then (if 0 ≤ q ∧ q < l.length then 0 else 6) else chkL l b
set_option maxRecDepth 100000 in
theorem RoomOf_bad (w : World) (a : Option Addr) (n cap : Nat) (l : QL) (hl : QsIn w a n cap l) (ba : Option Addr) (bn bc : Nat) (b : BL) (hb : BksIn w ba bn bc b) (q : Int) (he : roomE l b q ≠ 0) :
    Calls Tryz.prog 139 #[.slice a n cap, .slice ba bn bc, .int .i64 q] w fun e w' => Gives w w' e ([], roomE l b q) := by
  have hcb := hl.capb
  have hle := hl.le
  have HN := hid hl.len
  have hb0 : Below w.heap.size w (w.alloc (.cells #[.slice a n cap] 37)) := (Below.refl _ _).alloc (Nat.le_refl _) _
  have hK := Of_any _ _ n cap l (hl.later hb0) ba bn bc b (hb.later hb0)
  have HB0 := hid hb0
  have bL0 : Hid (Boxed (w.alloc (.cells #[.slice a n cap] 37)) w.heap.size 37 (.slice a n cap)) := Boxed.new w 37 (.slice a n cap)
  have cL0 := bL0.out.cell
  clear hl hb hb0
  by_cases hc : chkL l b = 0
  · have hE : roomE l b q = 6 := by
      unfold roomE at he ⊢
      rw [if_pos hc] at he ⊢
      by_cases h : 0 ≤ q ∧ q < l.length
      · rw [if_pos h] at he; exact absurd rfl he
      · rw [if_neg h]
    have hq : q < 0 ∨ (n : Int) ≤ q := by
      unfold roomE at he
      rw [if_pos hc] at he
      by_cases h : 0 ≤ q ∧ q < l.length
      · rw [if_pos h] at he; exact absurd rfl he
      · have := HN.out; omega
    rw [hE]
    rw [hc] at hK
    have HK := hid hK
    clear hK hE he hc
    by_cases hq0 : q < 0
    · clear hq
      refine (callsIn_wide (n := 4)).1 ?_
      refine callsIn_of_wp_marks Tryz.func139 rfl trivial ?_ rfl
      simp only [Tryz.ntmps139, List.size_toArray, List.length_cons, List.length_nil, Nat.reduceAdd, Nat.reduceSub, Array.replicate_succ, Array.replicate_zero, List.push_toArray, List.append_toArray, List.nil_append, List.cons_append]
      gi_wp2_with fail
      refine ⟨trivial, (callsIn_wide.2 HK.out).mono ?_⟩
      rintro e w1 ⟨a1, m1, k1, rfl, ht, _, B1⟩
      have HB1 := hid (below_from HB0.out B1)
      have hsz1 : w.heap.size ≤ w1.heap.size := HB1.out.size
      clear ht B1 cL0
      gi_wp2
      exact ⟨_, results_tmp2 rfl _ _ _, none, 0, 0, rfl, runsIn_nil _, HB1.out.alloc (by omega) _⟩
    · have hq1 : (n : Int) ≤ q := by omega
      clear hq
      refine (callsIn_wide (n := 4)).1 ?_
      refine callsIn_of_wp_marks Tryz.func139 rfl trivial ?_ rfl
      simp only [Tryz.ntmps139, List.size_toArray, List.length_cons, List.length_nil, Nat.reduceAdd, Nat.reduceSub, Array.replicate_succ, Array.replicate_zero, List.push_toArray, List.append_toArray, List.nil_append, List.cons_append]
      gi_wp2_with fail
      refine ⟨trivial, (callsIn_wide.2 HK.out).mono ?_⟩
      rintro e w1 ⟨a1, m1, k1, rfl, ht, _, B1⟩
      have HB1 := hid (below_from HB0.out B1)
      have bL1 : Hid (Boxed w1 w.heap.size 37 (.slice a n cap)) := (B1.block _ (by simp)).trans bL0.out
      have cL1 := bL1.out.cell
      have hsz1 : w.heap.size < w1.heap.size := bL1.out.lt
      clear ht B1 cL0
      gi_wp2
      exact ⟨_, results_tmp2 rfl _ _ _, none, 0, 0, rfl, runsIn_nil _, HB1.out.alloc (by omega) _⟩
  · have hE : roomE l b q = chkL l b := if_neg hc
    rw [hE]
    obtain ⟨er, her⟩ : ∃ er, chkL l b = er := ⟨_, rfl⟩
    rw [her] at hK hc
    rw [her]
    have hne : (er != 0) = true := by simp [hc]
    have HK := hid hK
    clear hK hE he her hc
    refine (callsIn_wide (n := 4)).1 ?_
    refine callsIn_of_wp_marks Tryz.func139 rfl trivial ?_ rfl
    simp only [Tryz.ntmps139, List.size_toArray, List.length_cons, List.length_nil, Nat.reduceAdd, Nat.reduceSub, Array.replicate_succ, Array.replicate_zero, List.push_toArray, List.append_toArray, List.nil_append, List.cons_append]
    gi_wp2_with fail
    refine ⟨trivial, (callsIn_wide.2 HK.out).mono ?_⟩
    rintro e w1 ⟨a1, m1, k1, rfl, ht, _, B1⟩
    have HB1 := hid (below_from HB0.out B1)
    have hsz1 : w.heap.size ≤ w1.heap.size := HB1.out.size
    clear ht B1 cL0
    gi_wp2
    exact ⟨_, results_tmp2 rfl _ _ _, none, 0, 0, rfl, runsIn_nil _, HB1.out.alloc (by omega) _⟩
theorem RoomOf_any (w : World) (a : Option Addr) (n cap : Nat) (l : QL) (hl : QsIn w a n cap l) (ba : Option Addr) (bn bc : Nat) (b : BL) (hb : BksIn w ba bn bc b) (q : Int) :
    Calls Tryz.prog 139 #[.slice a n cap, .slice ba bn bc, .int .i64 q] w fun e w' => Gives w w' e (if roomE l b q = 0 then roomR l b q else [], roomE l b q) := by
  by_cases he : roomE l b q = 0
  · have hc : chkL l b = 0 := by
      unfold roomE at he
      by_cases h : chkL l b = 0
      · exact h
      · rw [if_neg h] at he; exact he
    have hq : 0 ≤ q ∧ q < l.length := by
      unfold roomE at he
      rw [if_pos hc] at he
      by_cases h : 0 ≤ q ∧ q < l.length
      · exact h
      · rw [if_neg h] at he; simp at he
    rw [if_pos he, he]
    exact RoomOf_ok w a n cap l hl ba bn bc b hb q hc hq.1 (by rw [hl.len]; exact hq.2)
  · rw [if_neg he]
    exact RoomOf_bad w a n cap l hl ba bn bc b hb q he
end Go.Proofs.YtckpdfkobdgjeaaGreatDoor
namespace Go.Proofs.YtckpdfkobdgjeaaGreatDoor
def leftV (l : QL) (T : Nat → RunL) (p : Int) (t : Nat) : Int := vals (qu l p.toNat).runs t - vals (T p.toNat) t
def minTo (l : QL) (T : Nat → RunL) (t : Nat) : Int → List Int → Int
  | c, [] => c
  | c, p :: ps => minTo l T t (min c (leftV l T p t)) ps
theorem room_val {l : QL} {b : BL} (h : Clean l b) : ∀ (ps : List Int) (f : RunL), Fine f → (∀ p ∈ ps, 0 ≤ p ∧ p < l.length) → Fine (roomTo l (takenTo l b b.length) f ps) ∧ ∀ t, t < 48 → vals (roomTo l (takenTo l b b.length) f ps) t = minTo l (takenTo l b b.length) t (vals f t) ps
  | [], f, hf, _ => ⟨hf, fun t _ => rfl⟩
  | p :: ps, f, hf, hp => by
    have hp0 := hp p (by simp)
    obtain ⟨c1, c2⟩ := cap_val h.tree (p := p.toNat) (by omega)
    obtain ⟨t1, t2⟩ := taken_val h b.length (Nat.le_refl _) p.toNat
    have hfew := h.few
    obtain ⟨l1, _, l3⟩ := join_ok (jn := fun x y => x - y) c1 t1 (fun t ht => by have := c2 t; have := t2 t ht; omega)
    obtain ⟨m1, _, m3⟩ := join_ok (jn := fun x y => min x y) hf l1 (fun t ht => by have := fine_bd hf t; have := fine_bd l1 t; omega)
    obtain ⟨r1, r2⟩ := room_val h ps _ m1 (fun y hy => hp y (by simp [hy]))
    refine ⟨r1, fun t ht => ?_⟩
    rw [roomTo, r2 t ht, minTo, m3 t ht, l3 t ht]
    rfl
theorem line_in {l : QL} (hR : Right l) {q : Int} (h1 : q < l.length) : ∀ x ∈ lineOf l q, 0 ≤ x ∧ x < l.length := fun x hx => by
  have := (line_down hR (q.toNat + 1) q h1 (by omega)).2 x hx
  omega
theorem full_fine : Fine [(0, 1048576)] := fine_iff.1 (by decide)
theorem room_fine {l : QL} {b : BL} (h : Clean l b) {q : Int} (h1 : q < l.length) : Fine (roomR l b q) := (room_val h _ _ full_fine (line_in (right_of h.tree) h1)).1
end Go.Proofs.YtckpdfkobdgjeaaGreatDoor
namespace Go.Proofs.YtckpdfkobdgjeaaGreatDoor
def Qu.bare (q : Qu) : Qu := ⟨q.name, q.parent, none, 0, 0, q.runs⟩
def bareQ (l : QL) : QL := l.map Qu.bare
def Rq.bare (r : Rq) : Rq := ⟨r.queue, r.fr, r.un, r.kind, none, 0, 0, r.ps⟩
def Bk.bare (x : Bk) : Bk := ⟨x.id, x.rq.bare, none, 0, 0, x.bs⟩
def bareB (b : BL) : BL := b.map Bk.bare
theorem qu_bare (l : QL) (i : Nat) : qu (bareQ l) i = (qu l i).bare := by
  unfold qu bareQ
  rw [List.getD_eq_getElem?_getD, List.getD_eq_getElem?_getD, List.getElem?_map]
  cases l[i]? <;> rfl
theorem bk_bare (b : BL) (i : Nat) : bk (bareB b) i = (bk b i).bare := by
  unfold bk bareB
  rw [List.getD_eq_getElem?_getD, List.getD_eq_getElem?_getD, List.getElem?_map]
  cases b[i]? <;> rfl
theorem len_bareQ (l : QL) : (bareQ l).length = l.length := List.length_map _
theorem len_bareB (b : BL) : (bareB b).length = b.length := List.length_map _
theorem allQ_bare {p : Qu → Bool} (hp : ∀ q, p q.bare = p q) (l : QL) : ∀ n, allQ p (bareQ l) n = allQ p l n
  | 0 => rfl
  | n + 1 => by rw [allQ, allQ, allQ_bare hp l n, qu_bare, hp]
theorem nm_bare (l : QL) (i : Nat) : nm (bareQ l) i = nm l i := by unfold nm; rw [qu_bare]; rfl
theorem sameBefore_bare (l : QL) (k : Nat) : ∀ m, sameBefore (bareQ l) k m = sameBefore l k m
  | 0 => rfl
  | m + 1 => by rw [sameBefore, sameBefore, sameBefore_bare l k m, nm_bare, nm_bare]
theorem nodupTo_bare (l : QL) : ∀ n, nodupTo (bareQ l) n = nodupTo l n
  | 0 => rfl
  | n + 1 => by rw [nodupTo, nodupTo, nodupTo_bare l n, sameBefore_bare]
theorem parTo_bare (l : QL) : ∀ n, parTo (bareQ l) n = parTo l n
  | 0 => rfl
  | n + 1 => by rw [parTo, parTo, parTo_bare l n, qu_bare]; rfl
theorem chkT_bare (l : QL) : chkT (bareQ l) = chkT l := by
  unfold chkT namesOk capsOk
  rw [len_bareQ, allQ_bare (fun _ => rfl), nodupTo_bare, parTo_bare, allQ_bare (fun _ => rfl)]
theorem lineF_bare (l : QL) : ∀ f q, lineF (bareQ l) f q = lineF l f q
  | 0, _ => rfl
  | f + 1, q => by rw [lineF, lineF, qu_bare, lineF_bare l f]; rfl
theorem lineOf_bare (l : QL) (q : Int) : lineOf (bareQ l) q = lineOf l q := lineF_bare l 5 q
theorem chkQR_bare (l : QL) (r : Rq) : chkQR (bareQ l) r.bare = chkQR l r := by unfold chkQR; rw [chkT_bare, len_bareQ]; rfl
theorem meets_bare (r : Rq) (b : RunL) : meets r.bare b = meets r b := by kernel_rfl
theorem chkB_bare (l : QL) (x : Bk) : chkB (bareQ l) x.bare = chkB l x := by
  unfold chkB
  show (if chkQR (bareQ l) x.rq.bare = 0 then (if meets x.rq.bare x.bs = true then 0 else 1) else chkQR (bareQ l) x.rq.bare) = _
  rw [chkQR_bare, meets_bare]
theorem noB_bare (l : QL) (b : BL) (e : Int) : noB (bareQ l) (bareB b) e = noB l b e := by
  unfold noB
  rw [len_bareB]
  congr 1
  funext i
  rw [bk_bare, chkB_bare]
theorem firstE_bare (l : QL) (b : BL) : ∀ m k, firstE (bareQ l) (bareB b) k m = firstE l b k m
  | 0, _ => rfl
  | m + 1, k => by rw [firstE, firstE, noB_bare, firstE_bare l b m]
theorem chkL_bare (l : QL) (b : BL) : chkL (bareQ l) (bareB b) = chkL l b := by unfold chkL; rw [chkT_bare, len_bareB, firstE_bare]
theorem withTo_bare (f : RunL) (x : Bk) : ∀ k, withTo f x.bare k = withTo f x k
  | 0 => rfl
  | k + 1 => by rw [withTo, withTo, withTo_bare f x k]; rfl
theorem addAll_bare (x : Bk) : ∀ (ps : List Int) (T : Nat → RunL), addAll x.bare T ps = addAll x T ps
  | [], _ => rfl
  | p :: ps, T => by
    rw [addAll, addAll, addAll_bare x ps]
    congr 1
    funext q
    rw [show x.bare.bs.length = x.bs.length from rfl, withTo_bare]
theorem takenTo_bare (l : QL) (b : BL) : ∀ j, takenTo (bareQ l) (bareB b) j = takenTo l b j
  | 0 => rfl
  | j + 1 => by rw [takenTo, takenTo, takenTo_bare l b j, bk_bare, lineOf_bare, addAll_bare]; rfl
theorem fitsTo_bare (l : QL) (T : Nat → RunL) (fm : Int) : ∀ n, fitsTo (bareQ l) T fm n = fitsTo l T fm n
  | 0 => rfl
  | n + 1 => by rw [fitsTo, fitsTo, fitsTo_bare l T fm n, qu_bare]; rfl
theorem fitsE_bare (l : QL) (b : BL) (fm : Int) : fitsE (bareQ l) (bareB b) fm = fitsE l b fm := by unfold fitsE; rw [chkL_bare]
theorem fitsR_bare (l : QL) (b : BL) (fm : Int) : fitsR (bareQ l) (bareB b) fm = fitsR l b fm := by unfold fitsR; rw [fitsE_bare, len_bareB, len_bareQ, takenTo_bare, fitsTo_bare]
theorem roomTo_bare (l : QL) (T : Nat → RunL) : ∀ (ps : List Int) (f : RunL), roomTo (bareQ l) T f ps = roomTo l T f ps
  | [], _ => rfl
  | p :: ps, f => by rw [roomTo, roomTo, roomTo_bare l T ps, qu_bare]; rfl
theorem roomR_bare (l : QL) (b : BL) (q : Int) : roomR (bareQ l) (bareB b) q = roomR l b q := by unfold roomR; rw [len_bareB, takenTo_bare, lineOf_bare, roomTo_bare]
theorem roomE_bare (l : QL) (b : BL) (q : Int) : roomE (bareQ l) (bareB b) q = roomE l b q := by unfold roomE; rw [chkL_bare, len_bareQ]
theorem findA_bare (r : Rq) (f : RunL) : findA r.bare f = findA r f := by kernel_rfl
theorem overOk_bare (r : Rq) (b : RunL) : overOk r.bare b = overOk r b := by kernel_rfl
theorem overMax_bare (r : Rq) (b : RunL) : ∀ k, overMax r.bare b k = overMax r b k
  | 0 => rfl
  | k + 1 => by rw [overMax, overMax, overMax_bare r b k]; rfl
def overV (x : Bk) : Int := if overOk x.rq x.bs = true then overMax x.rq x.bs x.bs.length else 0
theorem overV_bare (x : Bk) : overV x.bare = overV x := by
  unfold overV
  show (if overOk x.rq.bare x.bs = true then overMax x.rq.bare x.bs x.bs.length else 0) = _
  rw [overOk_bare, overMax_bare]
def leastId (b : BL) (i : Nat) : Int := if i = 0 then 0 else (bk b (i - 1)).id + 1
def idOk (b : BL) (next : Int) (i : Nat) : Bool := decide (leastId b i ≤ (bk b i).id ∧ (bk b i).id < next)
def risB (b : BL) (next : Int) : Bool := allN (idOk b next) b.length
def lateB (b : BL) (t : Int) : Bool := !allN (fun i => !decide (overV (bk b i) ≤ t)) b.length
def planE (clock next : Int) (l : QL) (b : BL) : Int :=
  if chkL l b = 0 then (if (0 ≤ clock ∧ clock ≤ 48) ∧ (0 ≤ next ∧ next ≤ 1048576) then (if risB b next = true then (if lateB b clock = true then 9 else (if fitsR l b clock = true then 0 else 10)) else 1) else 3) else chkL l b
theorem risB_bare (b : BL) (next : Int) : risB (bareB b) next = risB b next := by
  unfold risB
  rw [len_bareB]
  congr 1
  funext i
  unfold idOk leastId
  rw [bk_bare, bk_bare]
  rfl
theorem lateB_bare (b : BL) (t : Int) : lateB (bareB b) t = lateB b t := by
  unfold lateB
  rw [len_bareB]
  congr 2
  funext i
  rw [bk_bare, overV_bare]
theorem planE_bare (c n : Int) (l : QL) (b : BL) : planE c n (bareQ l) (bareB b) = planE c n l b := by unfold planE; rw [chkL_bare, risB_bare, lateB_bare, fitsR_bare]
theorem planE_same {c n : Int} {l l' : QL} {b b' : BL} (hl : bareQ l' = bareQ l) (hb : bareB b' = bareB b) : planE c n l' b' = planE c n l b := by rw [← planE_bare, hl, hb, planE_bare]
structure Sound (clock next : Int) (l : QL) (b : BL) : Prop where
  clean : Clean l b
  c0 : 0 ≤ clock
  c48 : clock ≤ 48
  n0 : 0 ≤ next
  n1 : next ≤ 1048576
  rise : ∀ i, i < b.length → leastId b i ≤ (bk b i).id ∧ (bk b i).id < next
  alive : ∀ i, i < b.length → clock < overV (bk b i)
  fits : ∀ q : Nat, q < l.length → ∀ t : Nat, clock ≤ t → t < 48 → useTo l b q t b.length ≤ vals (qu l q).runs t
theorem sound_of {c n : Int} {l : QL} {b : BL} (h : planE c n l b = 0) : Sound c n l b := by
  unfold planE at h
  by_cases h1 : chkL l b = 0
  · rw [if_pos h1] at h
    have hC := clean_of h1
    by_cases h2 : (0 ≤ c ∧ c ≤ 48) ∧ (0 ≤ n ∧ n ≤ 1048576)
    · rw [if_pos h2] at h
      by_cases h3 : risB b n = true
      · rw [if_pos h3] at h
        by_cases h4 : lateB b c = true
        · rw [if_pos h4] at h; cases h
        · rw [if_neg h4] at h
          by_cases h5 : fitsR l b c = true
          · refine ⟨hC, h2.1.1, h2.1.2, h2.2.1, h2.2.2, fun i hi => of_decide_eq_true (allN_iff.1 h3 i hi), fun i hi => ?_, (fits_iff hC h2.1.1 h2.1.2).1 h5⟩
            have h6 : allN (fun i => !decide (overV (bk b i) ≤ c)) b.length = true := by simpa [lateB] using h4
            have h7 := allN_iff.1 h6 i hi
            simp at h7
            exact h7
          · rw [if_neg h5] at h; cases h
      · rw [if_neg h3] at h; cases h
    · rw [if_neg h2] at h; cases h
  · rw [if_neg h1] at h
    exact absurd h h1
theorem planE_ok {c n : Int} {l : QL} {b : BL} (h : Sound c n l b) : planE c n l b = 0 := by
  unfold planE
  have h3 : risB b n = true := allN_iff.2 fun i hi => decide_eq_true (h.rise i hi)
  have h4 : ¬ lateB b c = true := by
    have : allN (fun i => !decide (overV (bk b i) ≤ c)) b.length = true := allN_iff.2 fun i hi => by
      have := h.alive i hi
      simp
      exact this
    simp [lateB, this]
  rw [if_pos (chkL_clean h.clean), if_pos ⟨⟨h.c0, h.c48⟩, h.n0, h.n1⟩, if_pos h3, if_neg h4, if_pos ((fits_iff h.clean h.c0 h.c48).2 h.fits)]
theorem ids_rise {c n : Int} {l : QL} {b : BL} (h : Sound c n l b) : ∀ {j : Nat}, j < b.length → ∀ {i : Nat}, i < j → (bk b i).id < (bk b j).id
  | 0, _, i, hi => by omega
  | j + 1, hj, i, hi => by
    have h1 := (h.rise (j + 1) hj).1
    unfold leastId at h1
    rw [if_neg (by omega), show j + 1 - 1 = j from rfl] at h1
    by_cases e : i = j
    · subst e; omega
    · have := ids_rise h (j := j) (by omega) (i := i) (by omega)
      omega
theorem ids_low {c n : Int} {l : QL} {b : BL} (h : Sound c n l b) {i : Nat} (hi : i < b.length) : 0 ≤ (bk b i).id ∧ (bk b i).id < n := by
  refine ⟨?_, (h.rise i hi).2⟩
  have h1 := (h.rise i hi).1
  unfold leastId at h1
  by_cases e : i = 0
  · rw [if_pos e] at h1; exact h1
  · have h2 := ids_rise h hi (i := 0) (by omega)
    have h3 := (h.rise 0 (by omega)).1
    unfold leastId at h3
    rw [if_pos rfl] at h3
    omega
theorem overV_met {x : Bk} (h : meets x.rq x.bs = true) : overOk x.rq x.bs = true ∧ overV x = overMax x.rq x.bs x.bs.length := by
  have := meets_over h
  exact ⟨this, by unfold overV; rw [if_pos this]⟩
end Go.Proofs.YtckpdfkobdgjeaaGreatDoor
