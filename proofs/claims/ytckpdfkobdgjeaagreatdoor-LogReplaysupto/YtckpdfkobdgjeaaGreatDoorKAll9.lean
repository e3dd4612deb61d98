/- Several texts in one: RefA, RefB, RefC, RefD. -/
import Derived.Test.YtckpdfkobdgjeaaGreatDoorKAll8
import Derived.Deep.RegionLaw
import Derived.BigRegion
namespace Go.Proofs.YtckpdfkobdgjeaaGreatDoor
open Go.RowKit
theorem ints_put (w : World) (B : Nat) (v : Value) (l : List Int) (h : OwnInts w B v l) (xs : List Int) (n : Nat) (hn : n = xs.length) (gL : Nat) (hL : w.heap[gL]? = some (.cells (xs.map (Value.int .i64)).toArray 3 (0, 0))) (h0 : 0 < n) (hl : l.length + n ≤ 10000000) (hB : B ≤ w.heap.size) :
    ∃ g k w', (∀ ty, (Builtin.append_ #[47, 47] ty #[v, .slice (some ⟨gL, 0, none⟩) n n]).run Tryz.prog w = .ok (.slice (some ⟨g, 0, none⟩) (l.length + n) k) w') ∧ OwnInts w' B (.slice (some ⟨g, 0, none⟩) (l.length + n) k) (l ++ xs) ∧ w.grownBy w' v.ownBlock := by
  obtain ⟨i0, hi0, e⟩ := Option.map_eq_some_iff.1 infoInt
  simp only [Prod.mk.injEq] at e
  obtain ⟨z1, z2, z3⟩ := e
  obtain ⟨g9, k9, w', hrun, ho, hgr, _, _⟩ := run_append_lies w 47 0 B 3 i0 _ 1 8 Tryz.underlying47 hi0 z1 z2 z3 (by rfl) (by omega) v l.length (l.map (Value.int .i64)) h ⟨gL, 0, none⟩ n n (xs.map (Value.int .i64)) (by simp [hn]) (fun j u hj => by
    rw [Addr.add_lit, Nat.zero_add, cell_of_row w gL j _ _ _ hL]
    simpa using hj) (fun u hu => by
      obtain ⟨y, _, rfl⟩ := List.mem_map.1 hu
      rfl) (by omega) (by simp only [maxLen]; omega) (by omega) hB w.heap.size rfl
  refine ⟨g9, k9, w', fun ty => hrun, ?_, hgr⟩
  unfold OwnInts
  rw [List.length_append, ← hn, List.map_append]
  exact ho
theorem OwnInts.ints {w : World} {B : Nat} {a : Option Addr} {n c : Nat} {l : List Int} (h : OwnInts w B (.slice a n c) l) (hn : n = l.length) : IntsIn w a n c l := by
  subst hn
  exact own_ints_is h
set_option maxRecDepth 100000 in
set_option maxHeartbeats 4000000 in
theorem R_numbers (w : World) (x : Ac) (hx : AcIn w x) (hpn : x.rq.pn ≤ 1048576) (hcn : x.cn ≤ 1048576) :
    Calls Tryz.prog 32 #[.agg #[.int .i64 x.kind, .int .i64 x.n, .int .i64 x.rq.queue, .int .i64 x.rq.fr, .int .i64 x.rq.un, .int .i64 x.rq.kind, .slice x.rq.pa x.rq.pn x.rq.pc, .slice x.ca x.cn x.cc]] w fun e w' => ∃ a cap, e = .returned (.slice a (acNums x).length cap) ∧ IntsIn w' a (acNums x).length cap (acNums x) ∧ Below w.heap.size w w' := by
  obtain ⟨kd, nn, ⟨q, f, u, rk, pa, pn, pc, ps⟩, ca, cn, cq, cs⟩ := x
  have hp : RunsIn w pa pn pc ps := hx.1
  have hc : RunsIn w ca cn cq cs := hx.2
  obtain ⟨S, hS⟩ : ∃ S, w.heap.size = S := ⟨_, rfl⟩
  obtain ⟨W1, hW1⟩ : ∃ W, W = w.alloc (.cells #[.int .i64 kd, .int .i64 nn, .int .i64 q, .int .i64 f, .int .i64 u, .int .i64 rk, .slice pa pn pc, .slice ca cn cq] 27) := ⟨_, rfl⟩
  have b1 : Below w.heap.size w W1 := by rw [hW1]; exact (Below.refl _ _).alloc (Nat.le_refl _) _
  have s1 : W1.heap.size = S + 1 := by rw [hW1, ← hS]; simp
  have x1 : AcBox W1 S (.int .i64 kd) (.int .i64 nn) (.int .i64 q) (.int .i64 f) (.int .i64 u) (.int .i64 rk) (.slice pa pn pc) (.slice ca cn cq) := by rw [hW1, ← hS]; exact heap_alloc_new w _
  obtain ⟨a0, a1, a2, a3, a4, a5, a6, a7⟩ := x1.cells
  obtain ⟨pre, hpre⟩ : ∃ pre : List Int, pre = [kd, nn, q, f, u, rk, (pn : Int)] := ⟨_, rfl⟩
  obtain ⟨W2, hW2⟩ : ∃ W, W = W1.alloc (.cells #[.int .i64 kd, .int .i64 nn, .int .i64 q, .int .i64 f, .int .i64 u, .int .i64 rk, .int .i64 (pn : Int)] 3) := ⟨_, rfl⟩
  have b2 : Below W1.heap.size W1 W2 := by rw [hW2]; exact (Below.refl _ _).alloc (Nat.le_refl _) _
  have x2 : AcBox W2 S (.int .i64 kd) (.int .i64 nn) (.int .i64 q) (.int .i64 f) (.int .i64 u) (.int .i64 rk) (.slice pa pn pc) (.slice ca cn cq) := (b2.block S (by omega)).trans x1
  have o2 : OwnInts W2 (S + 1) (.slice (some ⟨S + 1, 0, none⟩) 7 7) pre := by
    rw [hpre]
    refine ⟨rfl, Or.inr ⟨S + 1, 7, _, rfl, Nat.le_refl _, by rw [hW2, ← s1]; exact heap_alloc_new W1 _, Nat.le_refl _, by simp only [maxLen]; omega, rfl, rfl⟩⟩
  have HP := hid hp
  have HC := hid hc
  have HB1 := hid (below_from b1 b2)
  have HX2 := hid x2
  have HO2 := hid o2
  have HW1 := hid hW1
  have HW2 := hid hW2
  have HPRE := hid hpre
  rw [hW1] at a0 a1 a2 a3 a4 a5 a6 a7
  clear hW1 hW2 b1 b2 x1 x2 o2 hp hc hx hpre
  go_enter Tryz.func32, Tryz.ntmps32
  go_upto_region 2 with fail
  rw [← HW1.out] at a0 a1 a2 a3 a4 a5 a6 a7 ⊢
  rw [← HW2.out]
  clear HW1 HW2 a0 a1 a2 a3 a4 a5 a6 a7
  have hn7 : pre.length = 7 := by rw [HPRE.out]; rfl
  go_wp2_with fail
  go_loopg [3, 4] pn (fun gk (v p : Value) wr => ∃ (k : Nat) (lk : List Int), p = .int .i64 (k : Int) ∧ k ≤ pn ∧ gk = pn - k ∧ lk = pre ++ numsP (ps.take k) ∧ OwnInts wr (S + 1) v lk ∧ AcBox wr S (.int .i64 kd) (.int .i64 nn) (.int .i64 q) (.int .i64 f) (.int .i64 u) (.int .i64 rk) (.slice pa pn pc) (.slice ca cn cq) ∧ Below S w wr)
  case atStart => exact ⟨0, pre, rfl, Nat.zero_le _, by simp, by simp [numsP], HO2.out, HX2.out, by rw [← hS]; exact HB1.out⟩
  case round =>
    obtain ⟨k, lk, rfl, hk, rfl, hlkq, hO, hbx, hbe⟩ := hrel
    have HX := hid hbx
    have HBE := hid hbe
    have HLK := hid hlkq
    by_cases hlt : k < pn
    · have hlt' : (k : Int) < pn := by omega
      obtain ⟨pb, po, hpa, hcs⟩ := (HP.out.later (by rw [hS]; exact hbe)).cells (by omega)
      obtain ⟨c0, c1⟩ := hcs k hlt
      obtain ⟨A, hA⟩ : ∃ A, rAt ps k = A := ⟨_, rfl⟩
      obtain ⟨D, hD⟩ : ∃ D, rN ps k = D := ⟨_, rfl⟩
      rw [hA] at c0
      rw [hD] at c1
      have hB : S + 1 ≤ wr.heap.size := by have := (Array.getElem?_eq_some_iff.1 hbx).1; omega
      have hple := HP.out.le
      have hplc := HP.out.capb
      have hlk : lk.length + 2 ≤ 10000000 := by
        have h7 := hn7
        have h1 : pn ≤ 1048576 := hpn
        have h2 : cn ≤ 1048576 := hcn
        have h3 := HP.out.len
        have h4 := HC.out.len
        rw [hlkq]
        simp [numsP_len]
        omega
      have CS := hid (show wr.cell? ⟨S, 6, none⟩ = some (.slice (some ⟨pb, po, none⟩) pn pc) from by rw [← hpa]; rw [cell_of_row wr S 6 _ _ _ hbx]; rfl)
      have C0 := hid c0
      have C1 := hid c1
      have HO := hid hO
      have HA := hid hA
      have HD := hid hD
      have HPA := hid hpa
      obtain ⟨a0, a1, a2, a3, a4, a5, a6, a7⟩ := hbx.cells
      clear c0 c1 hO hA hD hpa hbx hbe hcs hlkq
      go_upto_region 5 with fail
      refine wp_region_chgE ((Tryz.f32.body.bind fun c => regOps c 5).getD #[]) (by kernel_rfl) [isV (u3), isV (.pointer (some ⟨S, 2, none⟩)), isV (.pointer (some ⟨S, 6, none⟩)), isV (.slice (some ⟨pb, po, none⟩) pn pc), isV (.int .i64 k), isV (.pointer (some ⟨pb, po + k * 2, none⟩)), isV (.pointer (some ⟨pb, po + k * 2, none⟩)), isV (.int .i64 A), isV (.pointer (some ⟨S, 2, none⟩)), isV (.pointer (some ⟨S, 6, none⟩)), isV (.slice (some ⟨pb, po, none⟩) pn pc), isV (.int .i64 k), isV (.pointer (some ⟨pb, po + k * 2, none⟩)), isV (.pointer (some ⟨pb, po + k * 2 + 1, none⟩)), isV (.int .i64 D), ⟨fun u Z => ∃ gL, u = .slice (some ⟨gL, 0, none⟩) 2 2 ∧ Z.heap[gL]? = some (.cells #[.int .i64 A, .int .i64 D] 3 (0, 0)), fun _ _ _ ⟨gL, h1, h2⟩ hb => ⟨gL, h1, (hb.block _ (Array.getElem?_eq_some_iff.1 h2).1).trans h2⟩⟩, ⟨fun u Z => OwnInts Z (S + 1) u (lk ++ [A, D]) ∧ Below (S + 1) wr Z, fun _ _ _ ⟨h1, h2⟩ hb => ⟨h1.under hb, h2.trans (hb.mono (Nat.le_trans hB h2.size))⟩⟩, ⟨fun u Z => OwnInts Z (S + 1) u (lk ++ [A, D]) ∧ Below (S + 1) wr Z, fun _ _ _ ⟨h1, h2⟩ hb => ⟨h1.under hb, h2.trans (hb.mono (Nat.le_trans hB h2.size))⟩⟩] [] [(16, [15])] (S + 1) (hB) (by kernel_rfl) (by kernel_rfl) (by kernel_rfl) (by kernel_rfl) ?hg ?hstep ?hfin
      case hg =>
        intro g hg v w h
        cases hg
      case hstep =>
        refine AllOps.cons 1 rfl ?_ ?_
        · intro T w' hbS hb0 hl hd
          show OpDoes Tryz.prog _ _ _ _
          have hb := hbS (by kernel_rfl)
          have h0 : T.getD 3 undef = u3 := hl 3 (by kernel_rfl)
          exact Or.inl ⟨u3, w', by go_simp, rfl, Below.refl _ _⟩
        refine AllOps.cons 2 rfl ?_ ?_
        · intro T w' hbS hb0 hl hd
          show OpDoes Tryz.prog _ _ _ _
          have hb := hbS (by kernel_rfl)
          have h0 : T.getD 1 undef = .pointer (some ⟨S, 0, none⟩) := hl 1 (by kernel_rfl)
          exact Or.inl ⟨.pointer (some ⟨S, 2, none⟩), w', by go_simp, rfl, Below.refl _ _⟩
        refine AllOps.cons 3 rfl ?_ ?_
        · intro T w' hbS hb0 hl hd
          show OpDoes Tryz.prog _ _ _ _
          have hb := hbS (by kernel_rfl)
          have h0 : T.getD 36 undef = .pointer (some ⟨S, 2, none⟩) := hd 1 36 (by kernel_rfl)
          exact Or.inl ⟨.pointer (some ⟨S, 6, none⟩), w', by go_simp, rfl, Below.refl _ _⟩
        refine AllOps.cons 4 rfl ?_ ?_
        · intro T w' hbS hb0 hl hd
          show OpDoes Tryz.prog _ _ _ _
          have hb := hbS (by kernel_rfl)
          have h0 : T.getD 37 undef = .pointer (some ⟨S, 6, none⟩) := hd 2 37 (by kernel_rfl)
          have cc := cell_later hb CS.out
          exact Or.inl ⟨.slice (some ⟨pb, po, none⟩) pn pc, w', by go_simp, rfl, Below.refl _ _⟩
        refine AllOps.cons 5 rfl ?_ ?_
        · intro T w' hbS hb0 hl hd
          show OpDoes Tryz.prog _ _ _ _
          have hb := hbS (by kernel_rfl)
          have h0 : T.getD 4 undef = .int .i64 k := hl 4 (by kernel_rfl)
          exact Or.inl ⟨.int .i64 k, w', by go_simp, rfl, Below.refl _ _⟩
        refine AllOps.cons 6 rfl ?_ ?_
        · intro T w' hbS hb0 hl hd
          show OpDoes Tryz.prog _ _ _ _
          have hb := hbS (by kernel_rfl)
          have h0 : T.getD 38 undef = .slice (some ⟨pb, po, none⟩) pn pc := hd 3 38 (by kernel_rfl)
          have h1 : T.getD 39 undef = .int .i64 k := hd 4 39 (by kernel_rfl)
          exact Or.inl ⟨.pointer (some ⟨pb, po + k * 2, none⟩), w', by go_simp, rfl, Below.refl _ _⟩
        refine AllOps.cons 7 rfl ?_ ?_
        · intro T w' hbS hb0 hl hd
          show OpDoes Tryz.prog _ _ _ _
          have hb := hbS (by kernel_rfl)
          have h0 : T.getD 40 undef = .pointer (some ⟨pb, po + k * 2, none⟩) := hd 5 40 (by kernel_rfl)
          exact Or.inl ⟨.pointer (some ⟨pb, po + k * 2, none⟩), w', by go_simp, rfl, Below.refl _ _⟩
        refine AllOps.cons 8 rfl ?_ ?_
        · intro T w' hbS hb0 hl hd
          show OpDoes Tryz.prog _ _ _ _
          have hb := hbS (by kernel_rfl)
          have h0 : T.getD 41 undef = .pointer (some ⟨pb, po + k * 2, none⟩) := hd 6 41 (by kernel_rfl)
          have cc := cell_later hb C0.out
          exact Or.inl ⟨.int .i64 A, w', by go_simp, rfl, Below.refl _ _⟩
        refine AllOps.cons 9 rfl ?_ ?_
        · intro T w' hbS hb0 hl hd
          show OpDoes Tryz.prog _ _ _ _
          have hb := hbS (by kernel_rfl)
          have h0 : T.getD 1 undef = .pointer (some ⟨S, 0, none⟩) := hl 1 (by kernel_rfl)
          exact Or.inl ⟨.pointer (some ⟨S, 2, none⟩), w', by go_simp, rfl, Below.refl _ _⟩
        refine AllOps.cons 10 rfl ?_ ?_
        · intro T w' hbS hb0 hl hd
          show OpDoes Tryz.prog _ _ _ _
          have hb := hbS (by kernel_rfl)
          have h0 : T.getD 43 undef = .pointer (some ⟨S, 2, none⟩) := hd 8 43 (by kernel_rfl)
          exact Or.inl ⟨.pointer (some ⟨S, 6, none⟩), w', by go_simp, rfl, Below.refl _ _⟩
        refine AllOps.cons 11 rfl ?_ ?_
        · intro T w' hbS hb0 hl hd
          show OpDoes Tryz.prog _ _ _ _
          have hb := hbS (by kernel_rfl)
          have h0 : T.getD 44 undef = .pointer (some ⟨S, 6, none⟩) := hd 9 44 (by kernel_rfl)
          have cc := cell_later hb CS.out
          exact Or.inl ⟨.slice (some ⟨pb, po, none⟩) pn pc, w', by go_simp, rfl, Below.refl _ _⟩
        refine AllOps.cons 12 rfl ?_ ?_
        · intro T w' hbS hb0 hl hd
          show OpDoes Tryz.prog _ _ _ _
          have hb := hbS (by kernel_rfl)
          have h0 : T.getD 4 undef = .int .i64 k := hl 4 (by kernel_rfl)
          exact Or.inl ⟨.int .i64 k, w', by go_simp, rfl, Below.refl _ _⟩
        refine AllOps.cons 13 rfl ?_ ?_
        · intro T w' hbS hb0 hl hd
          show OpDoes Tryz.prog _ _ _ _
          have hb := hbS (by kernel_rfl)
          have h0 : T.getD 45 undef = .slice (some ⟨pb, po, none⟩) pn pc := hd 10 45 (by kernel_rfl)
          have h1 : T.getD 46 undef = .int .i64 k := hd 11 46 (by kernel_rfl)
          exact Or.inl ⟨.pointer (some ⟨pb, po + k * 2, none⟩), w', by go_simp, rfl, Below.refl _ _⟩
        refine AllOps.cons 14 rfl ?_ ?_
        · intro T w' hbS hb0 hl hd
          show OpDoes Tryz.prog _ _ _ _
          have hb := hbS (by kernel_rfl)
          have h0 : T.getD 47 undef = .pointer (some ⟨pb, po + k * 2, none⟩) := hd 12 47 (by kernel_rfl)
          exact Or.inl ⟨.pointer (some ⟨pb, po + k * 2 + 1, none⟩), w', by go_simp, rfl, Below.refl _ _⟩
        refine AllOps.cons 15 rfl ?_ ?_
        · intro T w' hbS hb0 hl hd
          show OpDoes Tryz.prog _ _ _ _
          have hb := hbS (by kernel_rfl)
          have h0 : T.getD 48 undef = .pointer (some ⟨pb, po + k * 2 + 1, none⟩) := hd 13 48 (by kernel_rfl)
          have cc := cell_later hb C1.out
          exact Or.inl ⟨.int .i64 D, w', by go_simp, rfl, Below.refl _ _⟩
        refine AllOps.cons 16 rfl ?_ ?_
        · intro T w' hbS hb0 hl hd
          show OpDoes Tryz.prog _ _ _ _
          have hb := hbS (by kernel_rfl)
          have h0 : T.getD 42 undef = .int .i64 A := hd 7 42 (by kernel_rfl)
          have h1 : T.getD 49 undef = .int .i64 D := hd 14 49 (by kernel_rfl)
          have h0b : T[42]?.getD undef = .int .i64 A := by rw [← h0]; simp
          have h1b : T[49]?.getD undef = .int .i64 D := by rw [← h1]; simp
          exact Or.inl ⟨.slice (some ⟨w'.heap.size, 0, none⟩) 2 2, w'.alloc (.cells #[.int .i64 A, .int .i64 D] 3), by go_simp, ⟨_, rfl, heap_alloc_new w' _⟩, (Below.refl _ _).alloc (Nat.le_refl _) _⟩
        refine AllOps.cons 17 rfl ?_ ?_
        · intro T w' hbS hb0 hl hd
          show OpChgB Tryz.prog _ _ _ _ _ _ _ _ _
          have hb := hbS (by kernel_rfl)
          have h0 : T.getD 35 undef = u3 := hd 0 35 (by kernel_rfl)
          obtain ⟨gL, h1, hgL⟩ := hd 15 50 (by kernel_rfl)
          obtain ⟨g9, k9, w'', hrun, hO, hgr⟩ := ints_put w' (S + 1) u3 lk (HO.out.under hb) [A, D] 2 rfl gL hgL (by omega) hlk (Nat.le_trans hB hb.size)
          have hO' : OwnInts w'' (S + 1) (.slice (some ⟨g9, 0, none⟩) (lk.length + 2) k9) (lk ++ [A, D]) := hO
          have hbw : Below (S + 1) wr w'' := (hb.mono hB).trans ⟨hgr.os, hgr.tape, hgr.output, hgr.size, fun j hj => hgr.block j (by have := hb.size; omega) (fun e => by have := (HO.out.lt j e.symm).1; omega)⟩
          refine ⟨_, w'', Or.inl (exec_append (.tmp 35) (.tmp 50) 47 rfl u3 (.slice (some ⟨gL, 0, none⟩) 2 2) h0 h1 (hrun _)), (fun h => by cases h), ⟨hO', hbw⟩, hbw, ?_⟩
          intro i h1 h2 h3 u hu
          match i with
          | 0 => exact hu
          | 1 => exact hu
          | 2 => exact hu
          | 3 => exact hu
          | 4 => exact hu
          | 5 => exact hu
          | 6 => exact hu
          | 7 => exact hu
          | 8 => exact hu
          | 9 => exact hu
          | 10 => exact hu
          | 11 => exact hu
          | 12 => exact hu
          | 13 => exact hu
          | 14 => exact hu
          | 15 => exact absurd h2 (by decide)
          | 16 => exact absurd rfl h1
          | 17 => exact absurd (h3.symm.trans (by kernel_rfl : _ = true)) (by decide)
          | n + 18 => exact hu
        refine AllOps.cons 18 rfl ?_ ?_
        · intro T w' hbS hb0 hl hd
          show OpDoes Tryz.prog _ _ _ _
          obtain ⟨h1, h2⟩ := hd 16 51 (by kernel_rfl)
          exact Or.inl ⟨T.getD 51 undef, w', by go_simp, ⟨h1, h2⟩, Below.refl _ _⟩
        exact trivial
      case hfin =>
        intro T w' hb hs hl hd _
        obtain ⟨h1, h2⟩ := hd 17 3 (by kernel_rfl) (by kernel_rfl)
        rw [lit_then [true, true, true, false, true, true, true, true, true, true, true, true, true, true, true, true, true, true, true, true, true, true, true, true, true, true, true, true, true, true, true, true, true, true, true, false, false, false, false, false, false, false, false, false, false, false, false, false, false, false, false, false, true, true, true, true, true, true, true, true, true, true, true, true, true, true, true, true, true, true, true, true, true, true, true, true, true, true, true, true, true] (by kernel_rfl) hs hl]
        obtain ⟨us, hus⟩ : ∃ us : Nat → Value, (fun d => T.getD d undef) = us := ⟨_, rfl⟩
        rw [hus]
        have f3 : us 3 = T.getD 3 undef := by rw [← hus]
        rw [← f3] at h1
        have H1 := hid h1
        have H2 := hid h2
        clear h1 h2 hl hd hs hus f3 hb a0 a1 a2 a3 a4 a5 a6 a7
        simp only [fillL]
        go_wp2
        go_roundg (pn - (k + 1))
        case measure => omega
        case rel =>
          refine ⟨k + 1, _, by go_num, by omega, rfl, ?_, H1.out, (H2.out.block S (by omega)).trans HX.out, HBE.out.trans (H2.out.mono (by omega))⟩
          have hpl := HP.out.len
          rw [HLK.out, numsP_snoc (by omega), HA.out, HD.out, List.append_assoc]
    · obtain rfl : pn = k := by omega
      rw [show pn = ps.length from HP.out.len, List.take_length] at hlkq
      have HO := hid hO
      have HLQ := hid hlkq
      obtain ⟨ua, uc, rfl⟩ := row_form hO
      obtain ⟨a0, a1, a2, a3, a4, a5, a6, a7⟩ := hbx.cells
      obtain ⟨W4, hW4⟩ : ∃ W, W = wr.alloc (.cells #[.int .i64 (cn : Int)] 3) := ⟨_, rfl⟩
      have b4 : Below wr.heap.size wr W4 := by rw [hW4]; exact (Below.refl _ _).alloc (Nat.le_refl _) _
      have hB : S + 1 ≤ wr.heap.size := by have := (Array.getElem?_eq_some_iff.1 hbx).1; omega
      have hlk : lk.length + 1 ≤ 10000000 := by
        have h7 := hn7
        have h1 : pn ≤ 1048576 := hpn
        have h3 := HP.out.len
        rw [hlkq, List.length_append, numsP_len]
        omega
      obtain ⟨g9, k9, w5, hrun, hO5, hgr⟩ := ints_put W4 (S + 1) _ lk (hO.under b4) [(cn : Int)] 1 rfl wr.heap.size (by rw [hW4]; exact heap_alloc_new wr _) (by omega) hlk (Nat.le_trans hB b4.size)
      have hb5 : Below (S + 1) wr w5 := (b4.mono hB).trans ⟨hgr.os, hgr.tape, hgr.output, hgr.size, fun j hj => hgr.block j (by have := b4.size; omega) (fun e => by have := (hO.lt j e.symm).1; omega)⟩
      have HX5 := hid (show AcBox w5 S (.int .i64 kd) (.int .i64 nn) (.int .i64 q) (.int .i64 f) (.int .i64 u) (.int .i64 rk) (.slice pa pn pc) (.slice ca cn cq) from (hb5.block S (by omega)).trans hbx)
      have HB5 := hid (hbe.trans (hb5.mono (by omega)))
      have HO5 := hid (show OwnInts w5 (S + 1) (.slice (some ⟨g9, 0, none⟩) (lk.length + 1) k9) (lk ++ [(cn : Int)]) from hO5)
      have hrun' := hrun 47
      rw [hW4] at hrun'
      clear hW4 b4 hrun hO5 hgr hb5 hO hbx hbe hlkq
      go_wp2_with (at_builtin; refine Lib.wpList_append_run _ rfl _ _ _ _ rfl _ _ rfl rfl _ _ hrun' ?_)
      clear hrun' a0 a1 a2 a3 a4 a5 a6 a7
      go_loopg [3, 5] cn (fun gk (v p : Value) wr => ∃ (k : Nat) (lk : List Int), p = .int .i64 (k : Int) ∧ k ≤ cn ∧ gk = cn - k ∧ lk = (pre ++ numsP ps ++ [(cn : Int)]) ++ numsP (cs.take k) ∧ OwnInts wr (S + 1) v lk ∧ AcBox wr S (.int .i64 kd) (.int .i64 nn) (.int .i64 q) (.int .i64 f) (.int .i64 u) (.int .i64 rk) (.slice pa pn pc) (.slice ca cn cq) ∧ Below S w wr)
      case atStart => exact ⟨0, lk ++ [(cn : Int)], rfl, Nat.zero_le _, by simp, by rw [HLQ.out]; simp [numsP], HO5.out, HX5.out, HB5.out⟩
      case round =>
        obtain ⟨k, lk, rfl, hk, rfl, hlkq, hO, hbx, hbe⟩ := hrel
        have HX := hid hbx
        have HBE := hid hbe
        have HLK := hid hlkq
        by_cases hlt : k < cn
        · have hlt' : (k : Int) < cn := by omega
          obtain ⟨pb, po, hpa, hcs⟩ := (HC.out.later (by rw [hS]; exact hbe)).cells (by omega)
          obtain ⟨c0, c1⟩ := hcs k hlt
          obtain ⟨A, hA⟩ : ∃ A, rAt cs k = A := ⟨_, rfl⟩
          obtain ⟨D, hD⟩ : ∃ D, rN cs k = D := ⟨_, rfl⟩
          rw [hA] at c0
          rw [hD] at c1
          have hB : S + 1 ≤ wr.heap.size := by have := (Array.getElem?_eq_some_iff.1 hbx).1; omega
          have hple := HC.out.le
          have hplc := HC.out.capb
          have hlk : lk.length + 2 ≤ 10000000 := by
            have h7 := hn7
            have h1 : pn ≤ 1048576 := hpn
            have h2 : cn ≤ 1048576 := hcn
            have h3 := HP.out.len
            have h4 := HC.out.len
            rw [hlkq]
            simp [numsP_len]
            omega
          have CS := hid (show wr.cell? ⟨S, 7, none⟩ = some (.slice (some ⟨pb, po, none⟩) cn cq) from by rw [← hpa]; rw [cell_of_row wr S 7 _ _ _ hbx]; rfl)
          have C0 := hid c0
          have C1 := hid c1
          have HO := hid hO
          have HA := hid hA
          have HD := hid hD
          have HPA := hid hpa
          obtain ⟨a0, a1, a2, a3, a4, a5, a6, a7⟩ := hbx.cells
          clear c0 c1 hO hA hD hpa hbx hbe hcs hlkq
          go_upto_region 10 with fail
          refine wp_region_chgE ((Tryz.f32.body.bind fun c => regOps c 10).getD #[]) (by kernel_rfl) [isV (u3), isV (.pointer (some ⟨S, 7, none⟩)), isV (.slice (some ⟨pb, po, none⟩) cn cq), isV (.int .i64 k), isV (.pointer (some ⟨pb, po + k * 2, none⟩)), isV (.pointer (some ⟨pb, po + k * 2, none⟩)), isV (.int .i64 A), isV (.pointer (some ⟨S, 7, none⟩)), isV (.slice (some ⟨pb, po, none⟩) cn cq), isV (.int .i64 k), isV (.pointer (some ⟨pb, po + k * 2, none⟩)), isV (.pointer (some ⟨pb, po + k * 2 + 1, none⟩)), isV (.int .i64 D), ⟨fun u Z => ∃ gL, u = .slice (some ⟨gL, 0, none⟩) 2 2 ∧ Z.heap[gL]? = some (.cells #[.int .i64 A, .int .i64 D] 3 (0, 0)), fun _ _ _ ⟨gL, h1, h2⟩ hb => ⟨gL, h1, (hb.block _ (Array.getElem?_eq_some_iff.1 h2).1).trans h2⟩⟩, ⟨fun u Z => OwnInts Z (S + 1) u (lk ++ [A, D]) ∧ Below (S + 1) wr Z, fun _ _ _ ⟨h1, h2⟩ hb => ⟨h1.under hb, h2.trans (hb.mono (Nat.le_trans hB h2.size))⟩⟩, ⟨fun u Z => OwnInts Z (S + 1) u (lk ++ [A, D]) ∧ Below (S + 1) wr Z, fun _ _ _ ⟨h1, h2⟩ hb => ⟨h1.under hb, h2.trans (hb.mono (Nat.le_trans hB h2.size))⟩⟩] [] [(14, [13])] (S + 1) (hB) (by kernel_rfl) (by kernel_rfl) (by kernel_rfl) (by kernel_rfl) ?hg ?hstep ?hfin
          case hg =>
            intro g hg v w h
            cases hg
          case hstep =>
            refine AllOps.cons 1 rfl ?_ ?_
            · intro T w' hbS hb0 hl hd
              show OpDoes Tryz.prog _ _ _ _
              have hb := hbS (by kernel_rfl)
              have h0 : T.getD 3 undef = u3 := hl 3 (by kernel_rfl)
              exact Or.inl ⟨u3, w', by go_simp, rfl, Below.refl _ _⟩
            refine AllOps.cons 2 rfl ?_ ?_
            · intro T w' hbS hb0 hl hd
              show OpDoes Tryz.prog _ _ _ _
              have hb := hbS (by kernel_rfl)
              have h0 : T.getD 1 undef = .pointer (some ⟨S, 0, none⟩) := hl 1 (by kernel_rfl)
              exact Or.inl ⟨.pointer (some ⟨S, 7, none⟩), w', by go_simp, rfl, Below.refl _ _⟩
            refine AllOps.cons 3 rfl ?_ ?_
            · intro T w' hbS hb0 hl hd
              show OpDoes Tryz.prog _ _ _ _
              have hb := hbS (by kernel_rfl)
              have h0 : T.getD 66 undef = .pointer (some ⟨S, 7, none⟩) := hd 1 66 (by kernel_rfl)
              have cc := cell_later hb CS.out
              exact Or.inl ⟨.slice (some ⟨pb, po, none⟩) cn cq, w', by go_simp, rfl, Below.refl _ _⟩
            refine AllOps.cons 4 rfl ?_ ?_
            · intro T w' hbS hb0 hl hd
              show OpDoes Tryz.prog _ _ _ _
              have hb := hbS (by kernel_rfl)
              have h0 : T.getD 5 undef = .int .i64 k := hl 5 (by kernel_rfl)
              exact Or.inl ⟨.int .i64 k, w', by go_simp, rfl, Below.refl _ _⟩
            refine AllOps.cons 5 rfl ?_ ?_
            · intro T w' hbS hb0 hl hd
              show OpDoes Tryz.prog _ _ _ _
              have hb := hbS (by kernel_rfl)
              have h0 : T.getD 67 undef = .slice (some ⟨pb, po, none⟩) cn cq := hd 2 67 (by kernel_rfl)
              have h1 : T.getD 68 undef = .int .i64 k := hd 3 68 (by kernel_rfl)
              exact Or.inl ⟨.pointer (some ⟨pb, po + k * 2, none⟩), w', by go_simp, rfl, Below.refl _ _⟩
            refine AllOps.cons 6 rfl ?_ ?_
            · intro T w' hbS hb0 hl hd
              show OpDoes Tryz.prog _ _ _ _
              have hb := hbS (by kernel_rfl)
              have h0 : T.getD 69 undef = .pointer (some ⟨pb, po + k * 2, none⟩) := hd 4 69 (by kernel_rfl)
              exact Or.inl ⟨.pointer (some ⟨pb, po + k * 2, none⟩), w', by go_simp, rfl, Below.refl _ _⟩
            refine AllOps.cons 7 rfl ?_ ?_
            · intro T w' hbS hb0 hl hd
              show OpDoes Tryz.prog _ _ _ _
              have hb := hbS (by kernel_rfl)
              have h0 : T.getD 70 undef = .pointer (some ⟨pb, po + k * 2, none⟩) := hd 5 70 (by kernel_rfl)
              have cc := cell_later hb C0.out
              exact Or.inl ⟨.int .i64 A, w', by go_simp, rfl, Below.refl _ _⟩
            refine AllOps.cons 8 rfl ?_ ?_
            · intro T w' hbS hb0 hl hd
              show OpDoes Tryz.prog _ _ _ _
              have hb := hbS (by kernel_rfl)
              have h0 : T.getD 1 undef = .pointer (some ⟨S, 0, none⟩) := hl 1 (by kernel_rfl)
              exact Or.inl ⟨.pointer (some ⟨S, 7, none⟩), w', by go_simp, rfl, Below.refl _ _⟩
            refine AllOps.cons 9 rfl ?_ ?_
            · intro T w' hbS hb0 hl hd
              show OpDoes Tryz.prog _ _ _ _
              have hb := hbS (by kernel_rfl)
              have h0 : T.getD 72 undef = .pointer (some ⟨S, 7, none⟩) := hd 7 72 (by kernel_rfl)
              have cc := cell_later hb CS.out
              exact Or.inl ⟨.slice (some ⟨pb, po, none⟩) cn cq, w', by go_simp, rfl, Below.refl _ _⟩
            refine AllOps.cons 10 rfl ?_ ?_
            · intro T w' hbS hb0 hl hd
              show OpDoes Tryz.prog _ _ _ _
              have hb := hbS (by kernel_rfl)
              have h0 : T.getD 5 undef = .int .i64 k := hl 5 (by kernel_rfl)
              exact Or.inl ⟨.int .i64 k, w', by go_simp, rfl, Below.refl _ _⟩
            refine AllOps.cons 11 rfl ?_ ?_
            · intro T w' hbS hb0 hl hd
              show OpDoes Tryz.prog _ _ _ _
              have hb := hbS (by kernel_rfl)
              have h0 : T.getD 73 undef = .slice (some ⟨pb, po, none⟩) cn cq := hd 8 73 (by kernel_rfl)
              have h1 : T.getD 74 undef = .int .i64 k := hd 9 74 (by kernel_rfl)
              exact Or.inl ⟨.pointer (some ⟨pb, po + k * 2, none⟩), w', by go_simp, rfl, Below.refl _ _⟩
            refine AllOps.cons 12 rfl ?_ ?_
            · intro T w' hbS hb0 hl hd
              show OpDoes Tryz.prog _ _ _ _
              have hb := hbS (by kernel_rfl)
              have h0 : T.getD 75 undef = .pointer (some ⟨pb, po + k * 2, none⟩) := hd 10 75 (by kernel_rfl)
              exact Or.inl ⟨.pointer (some ⟨pb, po + k * 2 + 1, none⟩), w', by go_simp, rfl, Below.refl _ _⟩
            refine AllOps.cons 13 rfl ?_ ?_
            · intro T w' hbS hb0 hl hd
              show OpDoes Tryz.prog _ _ _ _
              have hb := hbS (by kernel_rfl)
              have h0 : T.getD 76 undef = .pointer (some ⟨pb, po + k * 2 + 1, none⟩) := hd 11 76 (by kernel_rfl)
              have cc := cell_later hb C1.out
              exact Or.inl ⟨.int .i64 D, w', by go_simp, rfl, Below.refl _ _⟩
            refine AllOps.cons 14 rfl ?_ ?_
            · intro T w' hbS hb0 hl hd
              show OpDoes Tryz.prog _ _ _ _
              have hb := hbS (by kernel_rfl)
              have h0 : T.getD 71 undef = .int .i64 A := hd 6 71 (by kernel_rfl)
              have h1 : T.getD 77 undef = .int .i64 D := hd 12 77 (by kernel_rfl)
              have h0b : T[71]?.getD undef = .int .i64 A := by rw [← h0]; simp
              have h1b : T[77]?.getD undef = .int .i64 D := by rw [← h1]; simp
              exact Or.inl ⟨.slice (some ⟨w'.heap.size, 0, none⟩) 2 2, w'.alloc (.cells #[.int .i64 A, .int .i64 D] 3), by go_simp, ⟨_, rfl, heap_alloc_new w' _⟩, (Below.refl _ _).alloc (Nat.le_refl _) _⟩
            refine AllOps.cons 15 rfl ?_ ?_
            · intro T w' hbS hb0 hl hd
              show OpChgB Tryz.prog _ _ _ _ _ _ _ _ _
              have hb := hbS (by kernel_rfl)
              have h0 : T.getD 65 undef = u3 := hd 0 65 (by kernel_rfl)
              obtain ⟨gL, h1, hgL⟩ := hd 13 78 (by kernel_rfl)
              obtain ⟨g9, k9, w'', hrun, hO, hgr⟩ := ints_put w' (S + 1) u3 lk (HO.out.under hb) [A, D] 2 rfl gL hgL (by omega) hlk (Nat.le_trans hB hb.size)
              have hO' : OwnInts w'' (S + 1) (.slice (some ⟨g9, 0, none⟩) (lk.length + 2) k9) (lk ++ [A, D]) := hO
              have hbw : Below (S + 1) wr w'' := (hb.mono hB).trans ⟨hgr.os, hgr.tape, hgr.output, hgr.size, fun j hj => hgr.block j (by have := hb.size; omega) (fun e => by have := (HO.out.lt j e.symm).1; omega)⟩
              refine ⟨_, w'', Or.inl (exec_append (.tmp 65) (.tmp 78) 47 rfl u3 (.slice (some ⟨gL, 0, none⟩) 2 2) h0 h1 (hrun _)), (fun h => by cases h), ⟨hO', hbw⟩, hbw, ?_⟩
              intro i h1 h2 h3 u hu
              match i with
              | 0 => exact hu
              | 1 => exact hu
              | 2 => exact hu
              | 3 => exact hu
              | 4 => exact hu
              | 5 => exact hu
              | 6 => exact hu
              | 7 => exact hu
              | 8 => exact hu
              | 9 => exact hu
              | 10 => exact hu
              | 11 => exact hu
              | 12 => exact hu
              | 13 => exact absurd h2 (by decide)
              | 14 => exact absurd rfl h1
              | 15 => exact absurd (h3.symm.trans (by kernel_rfl : _ = true)) (by decide)
              | n + 16 => exact hu
            refine AllOps.cons 16 rfl ?_ ?_
            · intro T w' hbS hb0 hl hd
              show OpDoes Tryz.prog _ _ _ _
              obtain ⟨h1, h2⟩ := hd 14 79 (by kernel_rfl)
              exact Or.inl ⟨T.getD 79 undef, w', by go_simp, ⟨h1, h2⟩, Below.refl _ _⟩
            exact trivial
          case hfin =>
            intro T w' hb hs hl hd _
            obtain ⟨h1, h2⟩ := hd 15 3 (by kernel_rfl) (by kernel_rfl)
            rw [lit_then [true, true, true, false, true, true, true, true, true, true, true, true, true, true, true, true, true, true, true, true, true, true, true, true, true, true, true, true, true, true, true, true, true, true, true, true, true, true, true, true, true, true, true, true, true, true, true, true, true, true, true, true, true, true, true, true, true, true, true, true, true, true, true, true, true, false, false, false, false, false, false, false, false, false, false, false, false, false, false, false, true] (by kernel_rfl) hs hl]
            obtain ⟨us, hus⟩ : ∃ us : Nat → Value, (fun d => T.getD d undef) = us := ⟨_, rfl⟩
            rw [hus]
            have f3 : us 3 = T.getD 3 undef := by rw [← hus]
            rw [← f3] at h1
            have H1 := hid h1
            have H2 := hid h2
            clear h1 h2 hl hd hs hus f3 hb a0 a1 a2 a3 a4 a5 a6 a7
            simp only [fillL]
            go_wp2
            go_roundg (cn - (k + 1))
            case measure => omega
            case rel =>
              refine ⟨k + 1, _, by go_num, by omega, rfl, ?_, H1.out, (H2.out.block S (by omega)).trans HX.out, HBE.out.trans (H2.out.mono (by omega))⟩
              have hpl := HC.out.len
              rw [HLK.out, numsP_snoc (by omega), HA.out, HD.out, List.append_assoc]
        · obtain rfl : cn = k := by omega
          rw [show cn = cs.length from HC.out.len, List.take_length] at hlkq
          have hl9 : acNums ⟨kd, nn, ⟨q, f, u, rk, pa, pn, pc, ps⟩, ca, cn, cq, cs⟩ = lk := by
            have e1 := HP.out.len
            rw [hlkq, HPRE.out]
            unfold acNums
            have e2 := HC.out.len
            simp only [← e1, ← e2]
            simp
          have HL9 := hid hl9
          obtain ⟨ua2, uc2, rfl⟩ := row_form hO
          obtain ⟨a0, a1, a2, a3, a4, a5, a6, a7⟩ := hbx.cells
          have HO9 := hid hO
          have HB9 := hid hbe
          clear hO hbe hlkq hl9
          go_wp2
          go_ret
          rw [HL9.out]
          exact ⟨_, _, rfl, OwnInts.ints HO9.out rfl, by rw [hS]; exact HB9.out⟩
end Go.Proofs.YtckpdfkobdgjeaaGreatDoor
namespace Go.Proofs.YtckpdfkobdgjeaaGreatDoor
open Go.RowKit
theorem R_within (w : World) (x a b : Int) : Calls Tryz.prog 33 #[.int .i64 x, .int .i64 a, .int .i64 b] w fun e w' => e = .returned (.bool (decide (a ≤ x ∧ x ≤ b))) ∧ Below w.heap.size w w' := by
  by_cases h1 : a ≤ x
  · by_cases h2 : x ≤ b
    · go_enter Tryz.func33, Tryz.ntmps33
      go_wp2
      go_ret
      exact ⟨by simp [h1, h2], by first | exact Below.refl _ _ | exact (Below.refl _ _).drew⟩
    · go_enter Tryz.func33, Tryz.ntmps33
      go_wp2
      go_ret
      exact ⟨by simp [h2], by first | exact Below.refl _ _ | exact (Below.refl _ _).drew⟩
  · go_enter Tryz.func33, Tryz.ntmps33
    go_wp2
    go_ret
    exact ⟨by simp; omega, by first | exact Below.refl _ _ | exact (Below.refl _ _).drew⟩
theorem out_within (x : Int) : decide (0 ≤ x ∧ x ≤ 255) = !outB x := by
  unfold outB
  by_cases h1 : x < 0
  · simp [h1]; omega
  · by_cases h2 : 255 < x
    · simp [h2]
    · simp [h1, h2]; omega
set_option maxRecDepth 100000 in
set_option maxHeartbeats 4000000 in
theorem R_ActBytes (w : World) (x : Ac) (hx : AcIn w x) (hpn : x.rq.pn ≤ 1048576) (hcn : x.cn ≤ 1048576) :
    Calls Tryz.prog 10 #[.agg #[.int .i64 x.kind, .int .i64 x.n, .int .i64 x.rq.queue, .int .i64 x.rq.fr, .int .i64 x.rq.un, .int .i64 x.rq.kind, .slice x.rq.pa x.rq.pn x.rq.pc, .slice x.ca x.cn x.cc]] w fun e w' => e = .returned (.tuple #[.string (wrS x), .int .i64 (wrE x)]) ∧ Below w.heap.size w w' := by
  obtain ⟨S, hS⟩ : ∃ S, w.heap.size = S := ⟨_, rfl⟩
  obtain ⟨W1, hW1⟩ : ∃ W, W = w.alloc (.cells #[.int .i64 x.kind, .int .i64 x.n, .int .i64 x.rq.queue, .int .i64 x.rq.fr, .int .i64 x.rq.un, .int .i64 x.rq.kind, .slice x.rq.pa x.rq.pn x.rq.pc, .slice x.ca x.cn x.cc] 27) := ⟨_, rfl⟩
  have b1 : Below w.heap.size w W1 := by rw [hW1]; exact (Below.refl _ _).alloc (Nat.le_refl _) _
  have s1 : W1.heap.size = S + 1 := by rw [hW1, ← hS]; simp
  have x1 : AcBox W1 S (.int .i64 x.kind) (.int .i64 x.n) (.int .i64 x.rq.queue) (.int .i64 x.rq.fr) (.int .i64 x.rq.un) (.int .i64 x.rq.kind) (.slice x.rq.pa x.rq.pn x.rq.pc) (.slice x.ca x.cn x.cc) := by rw [hW1, ← hS]; exact heap_alloc_new w _
  obtain ⟨a0, a1, a2, a3, a4, a5, a6, a7⟩ := x1.cells
  have K1 := hid (R_numbers W1 x (hx.later b1) hpn hcn)
  have HLP := hid (show x.rq.ps.length = x.rq.pn from (RunsIn.len hx.1).symm)
  have HLC := hid (show x.cs.length = x.cn from hx.2.len.symm)
  have HX1 := hid x1
  have HB1 := hid b1
  have HW1 := hid hW1
  have hpcap : x.rq.pn ≤ x.rq.pc := RunsIn.le hx.1
  have hpcb : x.rq.pc ≤ 9223372036854775807 := RunsIn.capb hx.1
  have hccap := hx.2.le
  have hccb := hx.2.capb
  have hnl : (acNums x).length = 8 + 2 * x.rq.pn + 2 * x.cn := by
    unfold acNums
    simp only [List.length_append, List.length_cons, List.length_nil, numsP_len, HLP.out, HLC.out]
    omega
  obtain ⟨L, hL⟩ : ∃ L, acNums x = L := ⟨_, rfl⟩
  rw [hL] at K1 hnl
  have HL := hid hL
  rw [hW1] at a0 a1 a2 a3 a4 a5 a6 a7
  clear hW1 b1 x1 hx hL
  go_enter Tryz.func10, Tryz.ntmps10
  go_wp2_with fail
  rw [← HW1.out]
  refine K1.out.mono ?_
  rintro e w1 ⟨la, lc, rfl, hli, hb⟩
  have hlle := hli.le
  have hlcb := hli.capb
  have HB2 := hid (below_from HB1.out hb)
  have HX2 := hid (show AcBox w1 S (.int .i64 x.kind) (.int .i64 x.n) (.int .i64 x.rq.queue) (.int .i64 x.rq.fr) (.int .i64 x.rq.un) (.int .i64 x.rq.kind) (.slice x.rq.pa x.rq.pn x.rq.pc) (.slice x.ca x.cn x.cc) from (hb.block S (by omega)).trans HX1.out)
  have HLI := hid hli
  obtain ⟨N, hN⟩ : ∃ N, L.length = N := ⟨_, rfl⟩
  rw [hN] at hlle hnl
  rw [hN]
  have HN := hid hN
  have HNL := hid hnl
  have hNb : N ≤ 10000000 := by omega
  clear hb hli a0 a1 a2 a3 a4 a5 a6 a7 hN hnl
  go_wp2_with fail
  go_loopg [5] N (fun gk (p : Value) wr => ∃ (k : Nat), p = .int .i64 (k : Int) ∧ k ≤ N ∧ gk = N - k ∧ (L.take k).any outB = false ∧ Below w1.heap.size w1 wr)
  case atStart => exact ⟨0, rfl, Nat.zero_le _, by simp, by simp, Below.refl _ _⟩
  case round =>
    obtain ⟨k, rfl, hk, rfl, hany, hbe⟩ := hrel
    have HBE := hid hbe
    have HANY := hid hany
    by_cases hlt : k < N
    · have hlt' : (k : Int) < N := by omega
      obtain ⟨lb, lo, hla, hcs⟩ := (HLI.out.later hbe).cells (by have := HN.out; omega)
      subst hla
      have c0 := hcs k (by have := HN.out; omega)
      obtain ⟨A, hA⟩ : ∃ A, L.getD k 0 = A := ⟨_, rfl⟩
      rw [hA] at c0
      have K2 := R_within wr A 0 255
      rw [out_within] at K2
      have HK2 := hid K2
      have hsn : (L.take (k + 1)).any outB = outB A := by
        have hkl : k < L.length := by have := HN.out; omega
        rw [List.take_add_one, List.getElem?_eq_getElem hkl, List.any_append, hany]
        rw [List.getD_eq_getElem?_getD, List.getElem?_eq_getElem hkl] at hA
        simp at hA
        simp [hA]
      have HSN := hid hsn
      clear hcs hany hbe hA K2 hsn
      cases hout : outB A with
      | true =>
        rw [hout] at HK2 HSN
        clear hout
        go_wp2_with fail
        refine HK2.out.mono ?_
        rintro e w2 ⟨rfl, hb⟩
        have HB3 := hid (below_from HB2.out (below_from HBE.out hb))
        clear hb
        go_wp2
        go_ret2
        have hE : wrE x = 3 := by
          unfold wrE
          rw [HL.out, if_pos]
          have := HSN.out
          rw [← List.take_append_drop (k + 1) L, List.any_append, this]
          rfl
        refine ⟨?_, HB3.out⟩
        unfold wrS
        rw [hE]
        rfl
      | false =>
        rw [hout] at HK2 HSN
        clear hout
        go_wp2_with fail
        refine HK2.out.mono ?_
        rintro e w2 ⟨rfl, hb⟩
        have HB3 := hid (below_from HBE.out hb)
        clear hb
        go_wp2
        go_roundg (N - (k + 1))
        case rel => exact ⟨k + 1, by go_num, by omega, rfl, HSN.out, HB3.out⟩
        case measure => omega
    · obtain rfl : N = k := by omega
      obtain ⟨wo, hwo⟩ : ∃ wo, wo = wr := ⟨_, rfl⟩
      subst hwo
      have hany' : L.any outB = false := by
        rw [← HN.out, List.take_length] at hany
        exact hany
      have HANY := hid hany'
      have HB3 := hid (below_from HB2.out hbe)
      have HX3 := hid (show AcBox wo S (.int .i64 x.kind) (.int .i64 x.n) (.int .i64 x.rq.queue) (.int .i64 x.rq.fr) (.int .i64 x.rq.un) (.int .i64 x.rq.kind) (.slice x.rq.pa x.rq.pn x.rq.pc) (.slice x.ca x.cn x.cc) from (hbe.block S (Array.getElem?_eq_some_iff.1 HX2.out).1).trans HX2.out)
      have HLI3 := hid (HLI.out.later hbe)
      obtain ⟨a0, a1, a2, a3, a4, a5, a6, a7⟩ := HX3.out.cells
      have hE : wrE x = if 3 < x.rq.pn ∨ 48 < x.cn then 2 else 0 := by
        unfold wrE
        rw [HL.out, if_neg (by rw [HANY.out]; decide), HLP.out, HLC.out]
      have HE := hid hE
      clear hany hany' hbe hE
      by_cases h3 : 3 < x.rq.pn
      · have h3' : (3 : Int) < x.rq.pn := by omega
        go_wp2
        go_ret2
        refine ⟨?_, by first | exact HB3.out | (rw [← hS]; exact HB3.out)⟩
        unfold wrS
        rw [HE.out, if_pos (Or.inl h3)]
        rfl
      have h3' : ¬ (3 : Int) < x.rq.pn := by omega
      by_cases h48 : 48 < x.cn
      · have h48' : (48 : Int) < x.cn := by omega
        go_wp2
        go_ret2
        refine ⟨?_, by first | exact HB3.out | (rw [← hS]; exact HB3.out)⟩
        unfold wrS
        rw [HE.out, if_pos (Or.inr h48)]
        rfl
      have h48' : ¬ (48 : Int) < x.cn := by omega
      have hN200 : N ≤ 200 := by have := HNL.out; omega
      have hE0 : wrE x = 0 := by rw [HE.out, if_neg (by omega)]
      have HE0 := hid hE0
      clear hE0
      go_wp2_with fail
      clear a0 a1 a2 a3 a4 a5 a6 a7
      obtain ⟨M, hM⟩ : ∃ M, wo.heap.size = M := ⟨_, rfl⟩
      have HM := hid hM
      go_loopg [6, 7] N (fun gk (v p : Value) wr => ∃ (k : Nat), p = .int .i64 (k : Int) ∧ k ≤ N ∧ gk = N - k ∧ OwnBytes wr M v (L.take k) ∧ Below M wo wr)
      case atStart => exact ⟨0, rfl, Nat.zero_le _, by simp, World.ownsRow_nil _ _ _ _, Below.refl _ _⟩
      case round =>
        obtain ⟨k, rfl, hk, rfl, hO, hbe⟩ := hrel
        obtain ⟨ua, uc, rfl⟩ := row_form hO
        have hlk : (L.take k).length = k := by rw [List.length_take]; have := HN.out; omega
        by_cases hlt : k < N
        · have hlt' : (k : Int) < N := by omega
          obtain ⟨lb, lo, hla, hcs⟩ := (HLI3.out.later (by rw [HM.out]; exact hbe)).cells (by have := HN.out; omega)
          subst hla
          have c0 := hcs k (by have := HN.out; omega)
          have hkl : k < L.length := by have := HN.out; omega
          obtain ⟨A, hA⟩ : ∃ A, L[k] = A := ⟨_, rfl⟩
          have hA' : L.getD k 0 = A := by rw [List.getD_eq_getElem?_getD, List.getElem?_eq_getElem hkl]; simpa using hA
          rw [hA'] at c0
          have hrange : 0 ≤ A ∧ A ≤ 255 := by
            have h1 := List.any_eq_false.1 HANY.out A (by rw [← hA]; exact List.getElem_mem hkl)
            unfold outB at h1
            simp only [Bool.or_eq_true, decide_eq_true_eq, not_or] at h1
            omega
          have hmod : A % 256 = A := by omega
          obtain ⟨P, hP⟩ : ∃ P, wr.heap.size = P := ⟨_, rfl⟩
          obtain ⟨W4, hW4⟩ : ∃ W, W = wr.alloc (.cells #[.int .u8 A] 5) := ⟨_, rfl⟩
          have b4 : Below wr.heap.size wr W4 := by rw [hW4]; exact (Below.refl _ _).alloc (Nat.le_refl _) _
          have hsz := hbe.size
          obtain ⟨g9, k9, w5, hrun, hO5, hgr, _⟩ := bytes_put W4 M _ (L.take k) (ownsRow_later hO b4) A P (by rw [hW4, ← hP]; exact heap_alloc_new wr _) (by omega) (Nat.le_trans (by omega) b4.size)
          have hb5 : Below M wo w5 := (hbe.trans (b4.mono (by omega))).trans ⟨hgr.os, hgr.tape, hgr.output, hgr.size, fun j hj => hgr.block j (by have := b4.size; omega) (fun e => by have := (hO.lt j e.symm).1; omega)⟩
          have HO5 := hid (show OwnBytes w5 M (.slice (some ⟨g9, 0, none⟩) (k + 1) k9) (L.take (k + 1)) from by
            rw [List.take_add_one, List.getElem?_eq_getElem hkl, hA]
            rw [hlk] at hO5
            exact hO5)
          have HB5 := hid hb5
          rw [hlk] at hrun
          have hrun' := hrun 72
          rw [hW4] at hrun'
          rw [hlk]
          clear hW4 b4 hrun hO5 hgr hb5 hO hbe hcs hA hA' hlk hsz
          go_wp2_with (at_builtin; refine Lib.wpList_append_run _ rfl _ _ _ _ rfl _ _ rfl rfl _ _ hrun' ?_)
          go_roundg (N - (k + 1))
          case rel => exact ⟨k + 1, by go_num, by omega, rfl, HO5.out, HB5.out⟩
          case measure => omega
        · obtain rfl : N = k := by omega
          have hcv := own_string hO
          have hLL : L.take N = L := by rw [← HN.out]; exact List.take_length
          rw [show strOfNums (L.take N) = strOfNums L by rw [hLL], hlk] at hcv
          rw [hlk]
          have HB6 := hid (below_from HB3.out (show Below wo.heap.size wo wr by rw [HM.out]; exact hbe))
          clear hO hbe hlk hLL
          go_wp2
          go_ret2
          refine ⟨?_, HB6.out⟩
          unfold wrS
          rw [if_pos HE0.out, HE0.out, HL.out]
          rfl
end Go.Proofs.YtckpdfkobdgjeaaGreatDoor
namespace Go.Proofs.YtckpdfkobdgjeaaGreatDoor
open Go.RowKit
theorem step_append_run {P : Program} {ops : Array Oper} {o : Oper} {a : Act} {w w' : World} {K : Act → World → Prop} {Q : Exit → Act → World → Prop} {E : Prop}
    (hg : o.guard = none) (s x : Operand) (t : TypeId) (hop : o.op = Op.call { callee := Callee.builtin Builtin.append, args := #[s, x], argTypes := #[t, t] })
    (v y v' : Value) (hs : a.eval s = v) (hx : a.eval x = y) (hrun : (Builtin.append_ #[t, t] o.type #[v, y]).run P w = .ok v' w') (hK : K (a.put o.dst v') w') :
    if Region.wanted o (yielded ops a.tmps) = true then Oper.wp P o a w K Q else E := by
  have hw : Region.wanted o (yielded ops a.tmps) = true := by simp [Region.wanted, hg]
  rw [if_pos hw]
  unfold Oper.wp
  simp [execOp, hop, resolve, invoke, builtin, hs, hx, hrun, Result.andThen]
  exact hK
theorem index_at {t : ByteArray} {k : Nat} (h : k < t.size) {i : Int} (hi : i = (k : Int)) {v : Int} (hv : byt t k = v) (W : World) : (Instr.index 9 (.string t) (.int .i64 i)).run Tryz.prog W = .ok (.int .u8 v) W := by
  subst hi
  subst hv
  rw [run_index_string W 9 t .i64 (k : Int) Tryz.underlying9, dif_pos ⟨by omega, by omega⟩]
  unfold byt
  rw [dif_pos h]
  simp
def FromAns (w w' : World) (e : Ending) (t : ByteArray) : Prop :=
  (whole t 0 ∧ ∃ pa pc ca cc, e = .returned (.tuple #[.agg #[.int .i64 (byt t 0), .int .i64 (byt t 1), .int .i64 (byt t 2), .int .i64 (byt t 3), .int .i64 (byt t 4), .int .i64 (byt t 5), .slice pa (pN t 0) pc, .slice ca (cN t 0) cc], .int .i64 (endAt t 0 : Nat)]) ∧
    RunsIn w' pa (pN t 0) pc (prs t 7 (pN t 0)) ∧ RunsIn w' ca (cN t 0) cc (prs t (pA t 0 + 1) (cN t 0)) ∧ (∀ b off, pa = some ⟨b, off, none⟩ → w.heap.size ≤ b) ∧ (∀ b off, ca = some ⟨b, off, none⟩ → w.heap.size ≤ b) ∧ Below w.heap.size w w') ∨
  (¬ whole t 0 ∧ e = .returned (.tuple #[.agg #[.int .i64 0, .int .i64 0, .int .i64 0, .int .i64 0, .int .i64 0, .int .i64 0, .slice none 0 0, .slice none 0 0], .int .i64 0]) ∧ Below w.heap.size w w')
set_option maxRecDepth 100000 in
set_option maxHeartbeats 4000000 in
theorem R_actFrom (w : World) (t : ByteArray) (ht : t.size ≤ 4096) :
    Calls Tryz.prog 35 #[.string t] w fun e w' => FromAns w w' e t := by
  obtain ⟨S, hS⟩ : ∃ S, w.heap.size = S := ⟨_, rfl⟩
  obtain ⟨W1, hW1⟩ : ∃ W, W = w.alloc (.cells #[.int .i64 0, .int .i64 0, .int .i64 0, .int .i64 0, .int .i64 0, .int .i64 0, .slice none 0 0, .slice none 0 0] 27) := ⟨_, rfl⟩
  have b1 : Below w.heap.size w W1 := by rw [hW1]; exact (Below.refl _ _).alloc (Nat.le_refl _) _
  have s1 : W1.heap.size = S + 1 := by rw [hW1, ← hS]; simp
  have x1 : AcBox W1 S (.int .i64 0) (.int .i64 0) (.int .i64 0) (.int .i64 0) (.int .i64 0) (.int .i64 0) (.slice none 0 0) (.slice none 0 0) := by rw [hW1, ← hS]; exact heap_alloc_new w _
  have HX1 := hid x1
  have HB1 := hid b1
  have wb : ∀ k, wrap64 (byt t k) = byt t k := fun k => by have := byt_bd t k; unfold wrap64; omega
  by_cases h8 : t.size < 8
  · have h8' : (t.size : Int) < 8 := by omega
    obtain ⟨a0, a1, a2, a3, a4, a5, a6, a7⟩ := x1.cells
    have af : ∀ k, W1.frozen? ⟨S, k, none⟩ = false := fun k => frozen_of_row W1 S k _ _ x1
    clear b1 x1
    go_enter Tryz.func35, Tryz.ntmps35
    go_upto_region 1 with fail
    rw [← hW1]
    clear hW1
    go_wp2_with fail
    obtain ⟨e1, e2⟩ := eight_stores W1 S _ _ _ _ _ _ _ _ (.int .i64 0) (.int .i64 0) (.int .i64 0) (.int .i64 0) (.int .i64 0) (.int .i64 0) (.slice none 0 0) (.slice none 0 0) HX1.out
    have h4 : w.heap.size ≤ S := by omega
    refine bodyPost_ret (v := .tuple #[.agg #[.int .i64 0, .int .i64 0, .int .i64 0, .int .i64 0, .int .i64 0, .int .i64 0, .slice none 0 0, .slice none 0 0], .int .i64 0]) (results_row_tmp Tryz.results35 _ _ S 27 #[.int .i64 0, .int .i64 0, .int .i64 0, .int .i64 0, .int .i64 0, .int .i64 0, .slice none 0 0, .slice none 0 0] (0, 0) _ rfl e1 Tryz.underlying27 rfl (by kernel_rfl)) rfl (Or.inr ⟨fun hw => by have := hw.2.2.1; unfold pA at this; omega, rfl, ?_⟩)
    exact (((((((((HB1.out.setCell (p := ⟨S, 0, none⟩) h4 _).setCell (p := ⟨S, 1, none⟩) h4 _).setCell (p := ⟨S, 2, none⟩) h4 _).setCell (p := ⟨S, 3, none⟩) h4 _).setCell (p := ⟨S, 4, none⟩) h4 _).setCell (p := ⟨S, 5, none⟩) h4 _).setCell (p := ⟨S, 6, none⟩) h4 _).setCell (p := ⟨S, 7, none⟩) h4 _))
  have h8' : ¬ (t.size : Int) < 8 := by omega
  have i6 : 6 < t.size := by omega
  have x6 := index_at i6 (i := 6) rfl (v := byt t 6) rfl
  by_cases h3 : byt t 6 ≤ 3
  case neg =>
    have h3' : 3 < byt t 6 := by omega
    obtain ⟨a0, a1, a2, a3, a4, a5, a6, a7⟩ := x1.cells
    have af : ∀ k, W1.frozen? ⟨S, k, none⟩ = false := fun k => frozen_of_row W1 S k _ _ x1
    clear b1 x1
    go_enter Tryz.func35, Tryz.ntmps35
    go_upto_region 1 with fail
    rw [← hW1]
    clear hW1
    go_wp2_with fail
    obtain ⟨e1, e2⟩ := eight_stores W1 S _ _ _ _ _ _ _ _ (.int .i64 0) (.int .i64 0) (.int .i64 0) (.int .i64 0) (.int .i64 0) (.int .i64 0) (.slice none 0 0) (.slice none 0 0) HX1.out
    have h4 : w.heap.size ≤ S := by omega
    refine bodyPost_ret (v := .tuple #[.agg #[.int .i64 0, .int .i64 0, .int .i64 0, .int .i64 0, .int .i64 0, .int .i64 0, .slice none 0 0, .slice none 0 0], .int .i64 0]) (results_row_tmp Tryz.results35 _ _ S 27 #[.int .i64 0, .int .i64 0, .int .i64 0, .int .i64 0, .int .i64 0, .int .i64 0, .slice none 0 0, .slice none 0 0] (0, 0) _ rfl e1 Tryz.underlying27 rfl (by kernel_rfl)) rfl (Or.inr ⟨fun hw => by have := hw.2.1; simp only [Nat.zero_add] at this; omega, rfl, ?_⟩)
    exact (((((((((HB1.out.setCell (p := ⟨S, 0, none⟩) h4 _).setCell (p := ⟨S, 1, none⟩) h4 _).setCell (p := ⟨S, 2, none⟩) h4 _).setCell (p := ⟨S, 3, none⟩) h4 _).setCell (p := ⟨S, 4, none⟩) h4 _).setCell (p := ⟨S, 5, none⟩) h4 _).setCell (p := ⟨S, 6, none⟩) h4 _).setCell (p := ⟨S, 7, none⟩) h4 _))
  have h3' : ¬ 3 < byt t 6 := by omega
  have i0 : 0 < t.size := by omega
  have i1 : 1 < t.size := by omega
  have i2 : 2 < t.size := by omega
  have i3 : 3 < t.size := by omega
  have i4 : 4 < t.size := by omega
  have i5 : 5 < t.size := by omega
  have e0 := index_at i0 (i := 0) rfl (v := byt t 0) rfl
  have e1 := index_at i1 (i := 1) rfl (v := byt t 1) rfl
  have e2 := index_at i2 (i := 2) rfl (v := byt t 2) rfl
  have e3 := index_at i3 (i := 3) rfl (v := byt t 3) rfl
  have e4 := index_at i4 (i := 4) rfl (v := byt t 4) rfl
  have e5 := index_at i5 (i := 5) rfl (v := byt t 5) rfl
  obtain ⟨a0, a1, a2, a3, a4, a5, a6, a7⟩ := x1.cells
  have af : ∀ k, W1.frozen? ⟨S, k, none⟩ = false := fun k => frozen_of_row W1 S k _ _ x1
  clear b1 x1
  go_enter Tryz.func35, Tryz.ntmps35
  go_upto_region 1 with fail
  rw [← hW1]
  clear hW1
  go_upto_region 3 with fail
  go_cut [4] (fun p wx => ∃ Wn, Wn = wx ∧ p = .pointer (some ⟨S + 1, 0, none⟩) ∧ AcBox wx (S + 1) (.int .i64 (byt t 0)) (.int .i64 (byt t 1)) (.int .i64 (byt t 2)) (.int .i64 (byt t 3)) (.int .i64 (byt t 4)) (.int .i64 (byt t 5)) (.slice none 0 0) (.slice none 0 0) ∧ AcBox wx S (.int .i64 0) (.int .i64 0) (.int .i64 0) (.int .i64 0) (.int .i64 0) (.int .i64 0) (.slice none 0 0) (.slice none 0 0) ∧ Below w.heap.size w wx ∧ wx.heap.size = S + 2)
  case first =>
    go_region
    apply_assumption
    go_meet
    refine ⟨_, rfl, rfl, ?_, ?_, ?_, ?_⟩
    · rw [← s1]; exact heap_alloc_new W1 _
    · exact (Below.heap_alloc _ _ _ (by rw [s1]; omega)).trans HX1.out
    · exact (HB1.out.alloc (by rw [s1]; omega) _).drew
    · show (W1.alloc _).heap.size = _
      rw [alloc_one, s1]
  case rest =>
    obtain ⟨wx, rfl, rfl, hbx, hbz, hbe, hsx⟩ := hcut
    clear a0 a1 a2 a3 a4 a5 a6 a7 af e0 e1 e2 e3 e4 e5 i0 i1 i2 i3 i4 i5 s1 HX1 HB1
    obtain ⟨y0, hy0⟩ : ∃ y, byt t 0 = y := ⟨_, rfl⟩
    obtain ⟨y1, hy1⟩ : ∃ y, byt t 1 = y := ⟨_, rfl⟩
    obtain ⟨y2, hy2⟩ : ∃ y, byt t 2 = y := ⟨_, rfl⟩
    obtain ⟨y3, hy3⟩ : ∃ y, byt t 3 = y := ⟨_, rfl⟩
    obtain ⟨y4, hy4⟩ : ∃ y, byt t 4 = y := ⟨_, rfl⟩
    obtain ⟨y5, hy5⟩ : ∃ y, byt t 5 = y := ⟨_, rfl⟩
    rw [hy0, hy1, hy2, hy3, hy4, hy5] at hbx
    have HY := hid (And.intro hy0 (And.intro hy1 (And.intro hy2 (And.intro hy3 (And.intro hy4 hy5)))))
    clear hy0 hy1 hy2 hy3 hy4 hy5
    have hbd6 := byt_bd t 6
    obtain ⟨p, hp⟩ : ∃ p : Nat, byt t 6 = (p : Int) := ⟨(byt t 6).toNat, by omega⟩
    have x6' := index_at i6 (i := 6) rfl hp
    rw [hp] at h3 h3' hbd6
    have wp : wrap64 (p : Int) = (p : Int) := by rw [← hp]; exact wb 6
    have HPN := hid (show pN t 0 = p from by unfold pN; rw [Nat.zero_add, hp]; rfl)
    obtain ⟨q, hq⟩ : ∃ q : Nat, q = 7 + 2 * p := ⟨_, rfl⟩
    have HQ := hid hq
    have HPA := hid (show pA t 0 = q from by unfold pA; rw [HPN.out]; omega)
    have HP := hid hp
    have hp3 : p ≤ 3 := by omega
    have HBX := hid hbx
    have HBZ := hid hbz
    have HBE := hid hbe
    clear hp hbx hbz hbe x6
    go_upto_region 5 with fail
    rw [show (7 : Int) + 2 * (p : Int) = (q : Int) by omega]
    clear hq
    obtain ⟨a0, a1, a2, a3, a4, a5, a6, a7⟩ := HBZ.out.cells
    have af : ∀ k, wx.frozen? ⟨S, k, none⟩ = false := fun k => frozen_of_row wx S k _ _ HBZ.out
    by_cases hqs : q < t.size
    case neg =>
      have hqs' : (t.size : Int) ≤ (q : Int) := by omega
      go_wp2_with fail
      obtain ⟨e1, e2⟩ := eight_stores wx S _ _ _ _ _ _ _ _ (.int .i64 0) (.int .i64 0) (.int .i64 0) (.int .i64 0) (.int .i64 0) (.int .i64 0) (.slice none 0 0) (.slice none 0 0) HBZ.out
      have h4 : w.heap.size ≤ S := by omega
      refine bodyPost_ret (v := .tuple #[.agg #[.int .i64 0, .int .i64 0, .int .i64 0, .int .i64 0, .int .i64 0, .int .i64 0, .slice none 0 0, .slice none 0 0], .int .i64 0]) (results_row_tmp Tryz.results35 _ _ S 27 #[.int .i64 0, .int .i64 0, .int .i64 0, .int .i64 0, .int .i64 0, .int .i64 0, .slice none 0 0, .slice none 0 0] (0, 0) _ rfl e1 Tryz.underlying27 rfl (by kernel_rfl)) rfl (Or.inr ⟨fun hw => by have := hw.2.2.1; rw [HPA.out] at this; omega, rfl, ?_⟩)
      exact (((((((((HBE.out.setCell (p := ⟨S, 0, none⟩) h4 _).setCell (p := ⟨S, 1, none⟩) h4 _).setCell (p := ⟨S, 2, none⟩) h4 _).setCell (p := ⟨S, 3, none⟩) h4 _).setCell (p := ⟨S, 4, none⟩) h4 _).setCell (p := ⟨S, 5, none⟩) h4 _).setCell (p := ⟨S, 6, none⟩) h4 _).setCell (p := ⟨S, 7, none⟩) h4 _))
    have hqs' : ¬ (t.size : Int) ≤ (q : Int) := by omega
    have hqI : (q : Int) < t.size := by omega
    have hbdq := byt_bd t q
    obtain ⟨c, hc⟩ : ∃ c : Nat, byt t q = (c : Int) := ⟨(byt t q).toNat, by omega⟩
    have xq := index_at hqs (i := (q : Int)) rfl hc
    rw [hc] at hbdq
    have wc : wrap64 (c : Int) = (c : Int) := by rw [← hc]; exact wb q
    have HCN := hid (show cN t 0 = c from by unfold cN; rw [HPA.out, hc]; rfl)
    have HCB := hid (show byt t (pA t 0) = (c : Int) from by rw [HPA.out]; exact hc)
    clear hc
    by_cases hc48 : c ≤ 48
    case neg =>
      have hc' : (48 : Int) < (c : Int) := by omega
      go_wp2_with fail
      obtain ⟨e1, e2⟩ := eight_stores wx S _ _ _ _ _ _ _ _ (.int .i64 0) (.int .i64 0) (.int .i64 0) (.int .i64 0) (.int .i64 0) (.int .i64 0) (.slice none 0 0) (.slice none 0 0) HBZ.out
      have h4 : w.heap.size ≤ S := by omega
      refine bodyPost_ret (v := .tuple #[.agg #[.int .i64 0, .int .i64 0, .int .i64 0, .int .i64 0, .int .i64 0, .int .i64 0, .slice none 0 0, .slice none 0 0], .int .i64 0]) (results_row_tmp Tryz.results35 _ _ S 27 #[.int .i64 0, .int .i64 0, .int .i64 0, .int .i64 0, .int .i64 0, .int .i64 0, .slice none 0 0, .slice none 0 0] (0, 0) _ rfl e1 Tryz.underlying27 rfl (by kernel_rfl)) rfl (Or.inr ⟨fun hw => by have := hw.2.2.2.1; rw [HCB.out] at this; omega, rfl, ?_⟩)
      exact (((((((((HBE.out.setCell (p := ⟨S, 0, none⟩) h4 _).setCell (p := ⟨S, 1, none⟩) h4 _).setCell (p := ⟨S, 2, none⟩) h4 _).setCell (p := ⟨S, 3, none⟩) h4 _).setCell (p := ⟨S, 4, none⟩) h4 _).setCell (p := ⟨S, 5, none⟩) h4 _).setCell (p := ⟨S, 6, none⟩) h4 _).setCell (p := ⟨S, 7, none⟩) h4 _))
    have hc' : ¬ (48 : Int) < (c : Int) := by omega
    by_cases hend : q + 1 + 2 * c ≤ t.size
    case neg =>
      have hend' : (t.size : Int) < (q : Int) + 1 + 2 * (c : Int) := by omega
      go_wp2_with fail
      obtain ⟨e1, e2⟩ := eight_stores wx S _ _ _ _ _ _ _ _ (.int .i64 0) (.int .i64 0) (.int .i64 0) (.int .i64 0) (.int .i64 0) (.int .i64 0) (.slice none 0 0) (.slice none 0 0) HBZ.out
      have h4 : w.heap.size ≤ S := by omega
      refine bodyPost_ret (v := .tuple #[.agg #[.int .i64 0, .int .i64 0, .int .i64 0, .int .i64 0, .int .i64 0, .int .i64 0, .slice none 0 0, .slice none 0 0], .int .i64 0]) (results_row_tmp Tryz.results35 _ _ S 27 #[.int .i64 0, .int .i64 0, .int .i64 0, .int .i64 0, .int .i64 0, .int .i64 0, .slice none 0 0, .slice none 0 0] (0, 0) _ rfl e1 Tryz.underlying27 rfl (by kernel_rfl)) rfl (Or.inr ⟨fun hw => by have := hw.2.2.2.2; unfold endAt at this; rw [HPA.out, HCN.out] at this; omega, rfl, ?_⟩)
      exact (((((((((HBE.out.setCell (p := ⟨S, 0, none⟩) h4 _).setCell (p := ⟨S, 1, none⟩) h4 _).setCell (p := ⟨S, 2, none⟩) h4 _).setCell (p := ⟨S, 3, none⟩) h4 _).setCell (p := ⟨S, 4, none⟩) h4 _).setCell (p := ⟨S, 5, none⟩) h4 _).setCell (p := ⟨S, 6, none⟩) h4 _).setCell (p := ⟨S, 7, none⟩) h4 _))
    have hend' : ¬ (t.size : Int) < (q : Int) + 1 + 2 * (c : Int) := by omega
    have HW := hid (show whole t 0 from ⟨by omega, by rw [Nat.zero_add, HP.out]; omega, by rw [HPA.out]; exact hqs, by rw [HCB.out]; omega, by unfold endAt; rw [HPA.out, HCN.out]; exact hend⟩)
    go_wp2_with fail
    clear a0 a1 a2 a3 a4 a5 a6 a7 af
    go_loopg [6] p (fun gk (v : Value) wr => ∃ (j : Nat) (u : Value), v = .int .i64 ((7 + 2 * j : Nat) : Int) ∧ j ≤ p ∧ gk = p - j ∧ AcBox wr (S + 1) (.int .i64 y0) (.int .i64 y1) (.int .i64 y2) (.int .i64 y3) (.int .i64 y4) (.int .i64 y5) u (.slice none 0 0) ∧ AcBox wr S (.int .i64 0) (.int .i64 0) (.int .i64 0) (.int .i64 0) (.int .i64 0) (.int .i64 0) (.slice none 0 0) (.slice none 0 0) ∧ wr.ownsRow (S + 2) 64 2 u (prs t 7 j).length (cellsOf (prs t 7 j)) ∧ Below S w wr)
    case atStart => exact ⟨0, .slice none 0 0, rfl, Nat.zero_le _, by simp, HBX.out, HBZ.out, World.ownsRow_nil _ _ _ _, by rw [← hS]; exact HBE.out⟩
    case round =>
      obtain ⟨j, u, rfl, hj, rfl, hbx, hbz, hrow, hbe⟩ := hrel
      have hq := HQ.out
      by_cases hlt : j < p
      · obtain ⟨k, hk⟩ : ∃ k : Nat, k = 7 + 2 * j := ⟨_, rfl⟩
        have HK := hid hk
        have hlt' : (k : Int) < (q : Int) := by omega
        have ik : k < t.size := by omega
        have ikI : (k : Int) < t.size := by omega
        have ik1 : k + 1 < t.size := by omega
        have ik1I : (k : Int) + 1 < t.size := by omega
        rw [← hk]
        have bk0 := byt_bd t k
        have bk1 := byt_bd t (k + 1)
        obtain ⟨A, hA⟩ : ∃ A, byt t k = A := ⟨_, rfl⟩
        obtain ⟨D, hD⟩ : ∃ D, byt t (k + 1) = D := ⟨_, rfl⟩
        have wA : wrap64 A = A := by rw [← hA]; exact wb k
        have wD : wrap64 D = D := by rw [← hD]; exact wb (k + 1)
        have hw1 : IntKind.i64.wrap ((k : Int) + 1) = (k : Int) + 1 := by rw [IntKind.wrap_i64]; omega
        have xk := index_at ik (i := (k : Int)) rfl hA
        have xk1 := index_at ik1 (i := (k : Int) + 1) (by omega) hD
        rw [hA] at bk0
        rw [hD] at bk1
        have vA : IntKind.i64.wrap A = A := by rw [IntKind.wrap_i64]; omega
        have vD : IntKind.i64.wrap D = D := by rw [IntKind.wrap_i64]; omega
        obtain ⟨a0, a1, a2, a3, a4, a5, a6, a7⟩ := hbx.cells
        have af : ∀ m, wr.frozen? ⟨S + 1, m, none⟩ = false := fun m => frozen_of_row wr (S + 1) m _ _ hbx
        obtain ⟨Q, hQ⟩ : ∃ Q, wr.heap.size = Q := ⟨_, rfl⟩
        obtain ⟨W3, hW3⟩ : ∃ W, W = (wr.alloc (.cells #[.int .i64 A, .int .i64 D] 64)).drew := ⟨_, rfl⟩
        have b3 : Below wr.heap.size wr W3 := by rw [hW3]; exact ((Below.refl _ _).alloc (Nat.le_refl _) _).drew
        have hL : W3.heap[Q]? = some (.cells #[.int .i64 A, .int .i64 D] 64 (0, 0)) := by rw [hW3, ← hQ]; exact heap_alloc_new wr _
        have hsz : S + 2 ≤ wr.heap.size := by have := (Array.getElem?_eq_some_iff.1 hbx).1; omega
        obtain ⟨g, k9, w4, hrun, ho, hgr⟩ := putPiece_row W3 (S + 2) u (prs t 7 j) (ownsRow_later hrow b3) A D Q hL (by rw [prs_len]; omega) (Nat.le_trans hsz b3.size)
        have c6a : (wr.alloc (.cells #[.int .i64 A, .int .i64 D] 64)).cell? ⟨S + 1, 6, none⟩ = some u := by
          have : AcBox (wr.alloc (.cells #[.int .i64 A, .int .i64 D] 64)) (S + 1) (.int .i64 y0) (.int .i64 y1) (.int .i64 y2) (.int .i64 y3) (.int .i64 y4) (.int .i64 y5) u (.slice none 0 0) := (Below.heap_alloc _ _ _ (by omega)).trans hbx
          rw [cell_of_row _ (S + 1) 6 _ _ _ this]
          rfl
        have hown : ∀ y, u.ownBlock = some y → S + 2 ≤ y := fun y e => (hrow.lt y e).1
        have hx4 : AcBox w4 (S + 1) (.int .i64 y0) (.int .i64 y1) (.int .i64 y2) (.int .i64 y3) (.int .i64 y4) (.int .i64 y5) u (.slice none 0 0) := (hgr.block (S + 1) (by have := b3.size; omega) (fun e => by have := hown _ e.symm; omega)).trans ((b3.block (S + 1) (by omega)).trans hbx)
        have hz4 : AcBox w4 S (.int .i64 0) (.int .i64 0) (.int .i64 0) (.int .i64 0) (.int .i64 0) (.int .i64 0) (.slice none 0 0) (.slice none 0 0) := (hgr.block S (by have := b3.size; omega) (fun e => by have := hown _ e.symm; omega)).trans ((b3.block S (by omega)).trans hbz)
        have hb4 : Below S w w4 := (hbe.trans (b3.mono (by omega))).trans ⟨hgr.os, hgr.tape, hgr.output, hgr.size, fun y hy => hgr.block y (by have := b3.size; omega) (fun e => by have := hown _ e.symm; omega)⟩
        rw [prs_len] at hrun ho
        obtain ⟨W5, hW5⟩ : ∃ W, W = w4.setCell ⟨S + 1, 6, none⟩ (.slice (some ⟨g, 0, none⟩) (j + 1) k9) := ⟨_, rfl⟩
        have hx5 := heap_setCell_same w4 (S + 1) 6 _ _ (.slice (some ⟨g, 0, none⟩) (j + 1) k9) hx4
        rw [← hW5] at hx5
        have hz5 : AcBox W5 S (.int .i64 0) (.int .i64 0) (.int .i64 0) (.int .i64 0) (.int .i64 0) (.int .i64 0) (.slice none 0 0) (.slice none 0 0) := by rw [hW5]; exact (heap_setCell_other w4 ⟨S + 1, 6, none⟩ S _ (by simp)).trans hz4
        have hr5 : W5.ownsRow (S + 2) 64 2 (.slice (some ⟨g, 0, none⟩) (j + 1) k9) (j + 1) (cellsOf ((prs t 7 j) ++ [(A, D)])) := by
          refine ⟨ho.1, ?_⟩
          rcases ho.2 with hz | ⟨g', cap, cur, e, hB, hg, rest⟩
          · exact .inl hz
          · exact .inr ⟨g', cap, cur, e, hB, by rw [hW5]; exact (heap_setCell_other w4 ⟨S + 1, 6, none⟩ g' _ (by simp only; omega)).trans hg, rest⟩
        have hb5 : Below S w W5 := by rw [hW5]; exact hb4.setCell (p := ⟨S + 1, 6, none⟩) (by show S ≤ S + 1; omega) _
        have HX5 := hid hx5
        have HZ5 := hid hz5
        have HR5 := hid hr5
        have HB5 := hid hb5
        have HA := hid hA
        have HD := hid hD
        have c6 : w4.cell? ⟨S + 1, 6, none⟩ = some u := by rw [cell_of_row w4 (S + 1) 6 _ _ _ hx4]; rfl
        have f6 : w4.frozen? ⟨S + 1, 6, none⟩ = false := frozen_of_row w4 (S + 1) 6 _ _ hx4
        have hrun' := hrun 22
        rw [hW3] at hrun'
        clear hk hq hW3 b3 hL hsz hrun ho hgr hown hx4 hz4 hb4 hx5 hz5 hr5 hb5 hbx hbz hrow hbe hA hD bk0 bk1
        go_upto_region 10 with fail
        go_region_law (refine step_append_run rfl (.tmp 74) (.tmp 85) 22 rfl _ _ _ (by simp [Act.eval]) (by simp [Act.eval]) hrun' ?_)
        all_goals
          rw [← hW5]
          clear hW5 hrun' c6 f6 c6a a0 a1 a2 a3 a4 a5 a6 a7 af
          go_wp2
          go_roundg (p - (j + 1))
          case measure => omega
          case rel =>
            have hk := HK.out
            refine ⟨j + 1, _, by go_num, by omega, rfl, HX5.out, HZ5.out, ?_, HB5.out⟩
            have hpr : prs t 7 (j + 1) = prs t 7 j ++ [(A, D)] := by rw [prs_snoc, ← HA.out, ← HD.out, hk]
            rw [hpr, List.length_append, prs_len]
            exact HR5.out
      · obtain rfl : p = j := by omega
        obtain ⟨wo, hwo⟩ : ∃ wo, wo = wr := ⟨_, rfl⟩
        subst hwo
        obtain ⟨M, hM⟩ : ∃ M, wo.heap.size = M := ⟨_, rfl⟩
        have hMS : S + 2 ≤ M := by have := (Array.getElem?_eq_some_iff.1 hbx).1; omega
        rw [prs_len] at hrow
        obtain ⟨ua, uc, rfl⟩ := row_form hrow
        obtain ⟨pa', pc', e1, hR1, hN1⟩ := own_pairs (l := prs t 7 p) (by rw [prs_len]; exact hrow) (show (prs t 7 p).length ≤ 1000 by rw [prs_len]; omega)
        rw [prs_len] at e1 hR1
        injection e1 with e1 e2 e3
        subst e1
        subst e3
        have HR1 := hid hR1
        have HN1 := hid hN1
        have HX1 := hid hbx
        have HZ1 := hid hbz
        have HB1 := hid hbe
        have HM := hid hM
        have hqp : ((7 + 2 * p : Nat) : Int) = (q : Int) := by omega
        rw [hqp]
        have hll : ¬ (q : Int) < (q : Int) := by omega
        clear hbx hbz hbe hrow hR1 hN1 hqp e2 hq
        go_wp2_with fail
        go_loopg [8] c (fun gk (v : Value) wr => ∃ (j : Nat) (u : Value), v = .int .i64 ((q + 1 + 2 * j : Nat) : Int) ∧ j ≤ c ∧ gk = c - j ∧ AcBox wr (S + 1) (.int .i64 y0) (.int .i64 y1) (.int .i64 y2) (.int .i64 y3) (.int .i64 y4) (.int .i64 y5) (.slice ua p uc) u ∧ wr.ownsRow M 55 2 u (prs t (q + 1) j).length (cellsOf (prs t (q + 1) j)) ∧ (∀ y, y < M → y ≠ S + 1 → wr.heap[y]? = wo.heap[y]?) ∧ Below S w wr ∧ M ≤ wr.heap.size)
        case atStart => exact ⟨0, .slice none 0 0, by go_num, Nat.zero_le _, by simp, HX1.out, World.ownsRow_nil _ _ _ _, fun _ _ _ => rfl, HB1.out, by rw [hM]; omega⟩
        case round =>
          obtain ⟨j, u, rfl, hj, rfl, hbx, hrow, hsame, hbe, hMw⟩ := hrel
          by_cases hlt : j < c
          · obtain ⟨k, hk⟩ : ∃ k : Nat, k = q + 1 + 2 * j := ⟨_, rfl⟩
            have HK := hid hk
            have hlt' : (k : Int) < (q : Int) + 1 + 2 * (c : Int) := by omega
            have ik : k < t.size := by omega
            have ikI : (k : Int) < t.size := by omega
            have ik1 : k + 1 < t.size := by omega
            have ik1I : (k : Int) + 1 < t.size := by omega
            rw [← hk]
            have bk0 := byt_bd t k
            have bk1 := byt_bd t (k + 1)
            obtain ⟨A, hA⟩ : ∃ A, byt t k = A := ⟨_, rfl⟩
            obtain ⟨D, hD⟩ : ∃ D, byt t (k + 1) = D := ⟨_, rfl⟩
            have wA : wrap64 A = A := by rw [← hA]; exact wb k
            have wD : wrap64 D = D := by rw [← hD]; exact wb (k + 1)
            have hw1 : IntKind.i64.wrap ((k : Int) + 1) = (k : Int) + 1 := by rw [IntKind.wrap_i64]; omega
            have xk := index_at ik (i := (k : Int)) rfl hA
            have xk1 := index_at ik1 (i := (k : Int) + 1) (by omega) hD
            rw [hA] at bk0
            rw [hD] at bk1
            have vA : IntKind.i64.wrap A = A := by rw [IntKind.wrap_i64]; omega
            have vD : IntKind.i64.wrap D = D := by rw [IntKind.wrap_i64]; omega
            obtain ⟨a0, a1, a2, a3, a4, a5, a6, a7⟩ := hbx.cells
            have af : ∀ m, wr.frozen? ⟨S + 1, m, none⟩ = false := fun m => frozen_of_row wr (S + 1) m _ _ hbx
            obtain ⟨Q, hQ⟩ : ∃ Q, wr.heap.size = Q := ⟨_, rfl⟩
            obtain ⟨W3, hW3⟩ : ∃ W, W = (wr.alloc (.cells #[.int .i64 A, .int .i64 D] 55)).drew := ⟨_, rfl⟩
            have b3 : Below wr.heap.size wr W3 := by rw [hW3]; exact ((Below.refl _ _).alloc (Nat.le_refl _) _).drew
            have hL : W3.heap[Q]? = some (.cells #[.int .i64 A, .int .i64 D] 55 (0, 0)) := by rw [hW3, ← hQ]; exact heap_alloc_new wr _
            obtain ⟨g, k9, w4, hrun, ho, hgr⟩ := putRun_row W3 M u (prs t (q + 1) j) (ownsRow_later hrow b3) A D Q hL (by rw [prs_len]; omega) (Nat.le_trans hMw b3.size)
            have c6a : (wr.alloc (.cells #[.int .i64 A, .int .i64 D] 55)).cell? ⟨S + 1, 7, none⟩ = some u := by
              have : AcBox (wr.alloc (.cells #[.int .i64 A, .int .i64 D] 55)) (S + 1) (.int .i64 y0) (.int .i64 y1) (.int .i64 y2) (.int .i64 y3) (.int .i64 y4) (.int .i64 y5) (.slice ua p uc) u := (Below.heap_alloc _ _ _ (by omega)).trans hbx
              rw [cell_of_row _ (S + 1) 7 _ _ _ this]
              rfl
            have hown : ∀ y, u.ownBlock = some y → M ≤ y := fun y e => (hrow.lt y e).1
            have hold : ∀ y, y < M → w4.heap[y]? = wr.heap[y]? := fun y hy => (hgr.block y (by have := b3.size; omega) (fun e => by have := hown _ e.symm; omega)).trans (b3.block y (by omega))
            have hx4 : AcBox w4 (S + 1) (.int .i64 y0) (.int .i64 y1) (.int .i64 y2) (.int .i64 y3) (.int .i64 y4) (.int .i64 y5) (.slice ua p uc) u := (hold (S + 1) (by omega)).trans hbx
            have hb4 : Below S w w4 := (hbe.trans (b3.mono (by omega))).trans ⟨hgr.os, hgr.tape, hgr.output, hgr.size, fun y hy => hgr.block y (by have := b3.size; omega) (fun e => by have := hown _ e.symm; omega)⟩
            rw [prs_len] at hrun ho
            obtain ⟨W5, hW5⟩ : ∃ W, W = w4.setCell ⟨S + 1, 7, none⟩ (.slice (some ⟨g, 0, none⟩) (j + 1) k9) := ⟨_, rfl⟩
            have hx5 := heap_setCell_same w4 (S + 1) 7 _ _ (.slice (some ⟨g, 0, none⟩) (j + 1) k9) hx4
            rw [← hW5] at hx5
            have hr5 : W5.ownsRow M 55 2 (.slice (some ⟨g, 0, none⟩) (j + 1) k9) (j + 1) (cellsOf (prs t (q + 1) j ++ [(A, D)])) := by
              refine ⟨ho.1, ?_⟩
              rcases ho.2 with hz | ⟨g', cap, cur, e, hB, hg, rest⟩
              · exact .inl hz
              · exact .inr ⟨g', cap, cur, e, hB, by rw [hW5]; exact (heap_setCell_other w4 ⟨S + 1, 7, none⟩ g' _ (by simp only; omega)).trans hg, rest⟩
            have hb5 : Below S w W5 := by rw [hW5]; exact hb4.setCell (p := ⟨S + 1, 7, none⟩) (by show S ≤ S + 1; omega) _
            have hs5 : ∀ y, y < M → y ≠ S + 1 → W5.heap[y]? = wo.heap[y]? := fun y hy hne => by rw [hW5]; exact (heap_setCell_other w4 ⟨S + 1, 7, none⟩ y _ hne).trans ((hold y hy).trans (hsame y hy hne))
            have hm5 : M ≤ W5.heap.size := by rw [hW5]; simp only [World.setCell]; have := hgr.size; have := b3.size; first | omega | (simp; omega)
            have HX5 := hid hx5
            have HR5 := hid hr5
            have HB5 := hid hb5
            have HS5 := hid hs5
            have HM5 := hid hm5
            have HA := hid hA
            have HD := hid hD
            have c6 : w4.cell? ⟨S + 1, 7, none⟩ = some u := by rw [cell_of_row w4 (S + 1) 7 _ _ _ hx4]; rfl
            have f6 : w4.frozen? ⟨S + 1, 7, none⟩ = false := frozen_of_row w4 (S + 1) 7 _ _ hx4
            have hrun' := hrun 25
            rw [hW3] at hrun'
            clear hk hW3 b3 hL hrun ho hgr hown hx4 hb4 hx5 hr5 hb5 hs5 hm5 hbx hrow hbe hA hD bk0 bk1 hold hsame hMw
            go_upto_region 15 with fail
            go_region_law (refine step_append_run rfl (.tmp 105) (.tmp 116) 25 rfl _ _ _ (by simp [Act.eval]) (by simp [Act.eval]) hrun' ?_)
            all_goals
              rw [← hW5]
              clear hW5 hrun' c6 f6 c6a a0 a1 a2 a3 a4 a5 a6 a7 af
              go_wp2
              go_roundg (c - (j + 1))
              case measure => omega
              case rel =>
                have hk := HK.out
                refine ⟨j + 1, _, by go_num, by omega, rfl, HX5.out, ?_, HS5.out, HB5.out, HM5.out⟩
                have hpr : prs t (q + 1) (j + 1) = prs t (q + 1) j ++ [(A, D)] := by rw [prs_snoc, ← HA.out, ← HD.out, hk]
                rw [hpr, List.length_append, prs_len]
                exact HR5.out
          · obtain rfl : c = j := by omega
            have hll2 : ((q + 1 + 2 * c : Nat) : Int) = (q : Int) + 1 + 2 * (c : Int) := by omega
            rw [hll2]
            have hll3 : ¬ ((q : Int) + 1 + 2 * (c : Int) < (q : Int) + 1 + 2 * (c : Int)) := by omega
            rw [prs_len] at hrow
            obtain ⟨va, vc, rfl⟩ := row_form hrow
            obtain ⟨ca', cc', e1, hR2, hN2⟩ := own_pairs (l := prs t (q + 1) c) (by rw [prs_len]; exact hrow) (show (prs t (q + 1) c).length ≤ 1000 by rw [prs_len]; omega)
            rw [prs_len] at e1 hR2
            injection e1 with e1 e2 e3
            subst e1
            subst e3
            have hz : AcBox wr S (.int .i64 0) (.int .i64 0) (.int .i64 0) (.int .i64 0) (.int .i64 0) (.int .i64 0) (.slice none 0 0) (.slice none 0 0) := (hsame S (by omega) (by omega)).trans HZ1.out
            obtain ⟨a0, a1, a2, a3, a4, a5, a6, a7⟩ := hbx.cells
            obtain ⟨z0, z1, z2, z3, z4, z5, z6, z7⟩ := hz.cells
            have zf : ∀ m, wr.frozen? ⟨S, m, none⟩ = false := fun m => frozen_of_row wr S m _ _ hz
            have HR2 := hid hR2
            have HN2 := hid hN2
            have HZ := hid hz
            have HBB := hid hbe
            have HSM := hid hsame
            clear hR2 hN2 hz hbe hsame hrow hbx
            go_wp2
            obtain ⟨f1, f2⟩ := eight_stores wr S _ _ _ _ _ _ _ _ (.int .i64 y0) (.int .i64 y1) (.int .i64 y2) (.int .i64 y3) (.int .i64 y4) (.int .i64 y5) (.slice ua p uc) (.slice va c vc) HZ.out
            have h4 : S ≤ S := Nat.le_refl _
            refine bodyPost_ret (v := .tuple #[.agg #[.int .i64 y0, .int .i64 y1, .int .i64 y2, .int .i64 y3, .int .i64 y4, .int .i64 y5, .slice ua p uc, .slice va c vc], .int .i64 ((q : Int) + 1 + 2 * (c : Int))]) (results_row_tmp Tryz.results35 _ _ S 27 #[.int .i64 y0, .int .i64 y1, .int .i64 y2, .int .i64 y3, .int .i64 y4, .int .i64 y5, .slice ua p uc, .slice va c vc] (0, 0) _ rfl f1 Tryz.underlying27 rfl (by kernel_rfl)) rfl ?_
            refine Or.inl ⟨HW.out, ua, uc, va, vc, ?_, ?_, ?_, ?_, ?_, ?_⟩
            · obtain ⟨g0, g1, g2, g3, g4, g5⟩ := HY.out
              rw [g0, g1, g2, g3, g4, g5, HPN.out, HCN.out]
              unfold endAt
              rw [HPA.out, HCN.out]
              simp
            · rw [HPN.out]
              exact HR1.out.of_away (fun h0 b off e => by
                have h1 := (HN1.out b off e).1
                have h2 := HR1.out.lt h0 e
                rw [HM.out] at h2
                exact (f2 b (by omega)).trans (HSM.out b h2 (by omega)))
            · rw [HCN.out, HPA.out]
              exact HR2.out.of_away (fun h0 b off e => f2 b (by have := (HN2.out b off e).1; omega))
            · intro b off e; have := (HN1.out b off e).1; omega
            · intro b off e; have := (HN2.out b off e).1; omega
            · rw [hS]; exact ((((((((HBB.out.setCell (p := ⟨S, 0, none⟩) h4 _).setCell (p := ⟨S, 1, none⟩) h4 _).setCell (p := ⟨S, 2, none⟩) h4 _).setCell (p := ⟨S, 3, none⟩) h4 _).setCell (p := ⟨S, 4, none⟩) h4 _).setCell (p := ⟨S, 5, none⟩) h4 _).setCell (p := ⟨S, 6, none⟩) h4 _).setCell (p := ⟨S, 7, none⟩) h4 _)
end Go.Proofs.YtckpdfkobdgjeaaGreatDoor
namespace Go.Proofs.YtckpdfkobdgjeaaGreatDoor
open Go.RowKit
theorem byt_cut (t : ByteArray) (m j : Nat) (hm : m ≤ t.size) : byt (t.extract m t.size) j = byt t (m + j) := by
  unfold byt
  by_cases h : m + j < t.size
  · rw [dif_pos h, dif_pos (by rw [ByteArray.size_extract]; omega), ByteArray.getElem_extract]
  · rw [dif_neg h, dif_neg (by rw [ByteArray.size_extract]; omega)]
theorem cut_size (t : ByteArray) (m : Nat) : (t.extract m t.size).size = t.size - m := by rw [ByteArray.size_extract]; omega
theorem whole_cut {t : ByteArray} {m : Nat} (hm : m ≤ t.size) : (whole (t.extract m t.size) 0 ↔ whole t m) ∧ pN (t.extract m t.size) 0 = pN t m ∧ pA (t.extract m t.size) 0 + m = pA t m ∧ cN (t.extract m t.size) 0 = cN t m ∧ endAt (t.extract m t.size) 0 + m = endAt t m := by
  have e6 : byt (t.extract m t.size) (0 + 6) = byt t (m + 6) := by rw [Nat.zero_add]; exact byt_cut t m 6 hm
  have eP : pN (t.extract m t.size) 0 = pN t m := by unfold pN; rw [e6]
  have eA : pA (t.extract m t.size) 0 + m = pA t m := by unfold pA; rw [eP]; omega
  have eb : byt (t.extract m t.size) (pA (t.extract m t.size) 0) = byt t (pA t m) := by rw [byt_cut t m _ hm, ← eA, Nat.add_comm]
  have eC : cN (t.extract m t.size) 0 = cN t m := by unfold cN; rw [eb]
  have eE : endAt (t.extract m t.size) 0 + m = endAt t m := by unfold endAt; rw [eC, ← eA]; omega
  refine ⟨?_, eP, eA, eC, eE⟩
  unfold whole
  rw [e6, eb, cut_size]
  constructor
  · rintro ⟨h1, h2, h3, h4, h5⟩
    exact ⟨by omega, h2, by omega, h4, by omega⟩
  · rintro ⟨h1, h2, h3, h4, h5⟩
    exact ⟨by omega, h2, by omega, h4, by omega⟩
theorem prs_cut {t : ByteArray} {m k n : Nat} (hm : m ≤ t.size) : prs (t.extract m t.size) k n = prs t (m + k) n := prs_same fun j _ => by rw [byt_cut t m _ hm, Nat.add_assoc]
set_option maxRecDepth 100000 in
set_option maxHeartbeats 4000000 in
theorem R_ReplayOf (w : World) (t : ByteArray) : Calls Tryz.prog 12 #[.string t] w fun e w' => RepAns w w' e t := by
  obtain ⟨S, hS⟩ : ∃ S, w.heap.size = S := ⟨_, rfl⟩
  have HSS := hid hS
  by_cases ht : 4096 < t.size
  · have ht' : (4096 : Int) < t.size := by omega
    go_enter Tryz.func12, Tryz.ntmps12
    go_wp2
    go_ret3
    exact ⟨Below.refl _ _, Or.inl ⟨ht, rfl⟩⟩
  have ht' : ¬ (4096 : Int) < t.size := by omega
  go_enter Tryz.func12, Tryz.ntmps12
  go_wp2_with fail
  go_loopg [5, 6] 60 (fun gk (u p : Value) wr => ∃ (l : List Ac) (m : Nat), p = .int .i64 (m : Int) ∧ l.length ≤ 60 ∧ gk = 60 - l.length ∧ wr.ownsRow S 27 8 u l.length (acRow l) ∧ (∀ x ∈ l, AcIn wr x ∧ AcFar S x u) ∧ ReadOf t 0 l m ∧ Below S w wr)
  case atStart => exact ⟨[], 0, rfl, by simp, by simp, World.ownsRow_nil _ _ _ _, by simp, rfl, Below.refl _ _⟩
  case round =>
    obtain ⟨l, m, rfl, hl, rfl, hrow, hin, hread, hb⟩ := hrel
    obtain ⟨a, c, hu⟩ := row_form hrow
    subst hu
    have hm : m ≤ t.size := hread.le (Nat.zero_le _)
    by_cases hlt : l.length < 60
    · have hlt' : (l.length : Int) < 60 := by omega
      obtain ⟨s, hs⟩ : ∃ s, s = t.extract m t.size := ⟨_, rfl⟩
      have hss : s.size ≤ 4096 := by rw [hs, cut_size]; omega
      have K1 := hid (R_actFrom wr s hss)
      have HROW := hid hrow
      have HIN := hid hin
      have HREAD := hid hread
      have HB := hid hb
      have HSQ := hid hs
      have hmI : (m : Int) ≤ t.size := by omega
      have hcut : ∀ W, (Instr.slice 9 (.string t) (some (.int .i64 (m : Int))) none none).run Tryz.prog W = .ok (.string s) W := fun W => by
        rw [hs]
        go_simp
      clear hrow hin hread hb hs hss
      go_wp2_with fail
      refine K1.out.mono ?_
      rintro e w1 (⟨hw, pa, pc, ca, cc, rfl, hp, hc, hpn, hcn, hb1⟩ | ⟨hw, rfl, hb1⟩)
      · obtain ⟨c1, c2, c3, c4, c5⟩ := whole_cut hm
        have hsq := HSQ.out
        rw [← hsq] at c1 c2 c3 c4 c5
        have hwt : whole t m := c1.1 hw
        obtain ⟨X, hX⟩ : ∃ X : Ac, X = ⟨byt s 0, byt s 1, ⟨byt s 2, byt s 3, byt s 4, byt s 5, pa, pN s 0, pc, prs s 7 (pN s 0)⟩, ca, cN s 0, cc, prs s (pA s 0 + 1) (cN s 0)⟩ := ⟨_, rfl⟩
        have hin1 : AcIn w1 X := by rw [hX]; exact ⟨hp, hc⟩
        have hat : AcAt t m X := by
          have hb : ∀ j, byt s j = byt t (m + j) := fun j => by rw [hsq]; exact byt_cut t m j hm
          have e7 : prs s 7 (pN s 0) = prs t (m + 7) (pN t m) := by rw [c2, hsq, prs_cut hm]
          have e8 : prs s (pA s 0 + 1) (cN s 0) = prs t (pA t m + 1) (cN t m) := by
            rw [c4, hsq, prs_cut hm, ← hsq, ← c3]
            congr 1
            omega
          rw [hX]
          exact ⟨hb 0, hb 1, hb 2, hb 3, hb 4, hb 5, e7, e8⟩
        have hpX : ∀ b off, X.rq.pa = some ⟨b, off, none⟩ → wr.heap.size ≤ b := by rw [hX]; exact hpn
        have hcX : ∀ b off, X.ca = some ⟨b, off, none⟩ → wr.heap.size ≤ b := by rw [hX]; exact hcn
        rw [show byt s 0 = X.kind by rw [hX], show byt s 1 = X.n by rw [hX], show byt s 2 = X.rq.queue by rw [hX], show byt s 3 = X.rq.fr by rw [hX], show byt s 4 = X.rq.un by rw [hX], show byt s 5 = X.rq.kind by rw [hX], show Value.slice pa (pN s 0) pc = .slice X.rq.pa X.rq.pn X.rq.pc by rw [hX], show Value.slice ca (cN s 0) cc = .slice X.ca X.cn X.cc by rw [hX]]
        obtain ⟨N, hN⟩ : ∃ N, endAt s 0 = N := ⟨_, rfl⟩
        rw [hN]
        rw [hN] at c5
        have hN0 : 0 < N := by rw [← hN]; unfold endAt pA; omega
        have hn0 : ((N : Int) == 0) = false := by
          have : ¬ (N : Int) = 0 := by omega
          simpa using this
        have hend := hwt.2.2.2.2
        have hmN : m + N ≤ t.size := by omega
        clear hX hp hc hpn hcn
        have hs := HB.out.size
        have hs1 := hb1.size
        obtain ⟨W2, hW2⟩ : ∃ W, W = (w1.alloc (.cells #[.int .i64 X.kind, .int .i64 X.n, .int .i64 X.rq.queue, .int .i64 X.rq.fr, .int .i64 X.rq.un, .int .i64 X.rq.kind, .slice X.rq.pa X.rq.pn X.rq.pc, .slice X.ca X.cn X.cc] 27)).alloc (.cells #[.int .i64 X.kind, .int .i64 X.n, .int .i64 X.rq.queue, .int .i64 X.rq.fr, .int .i64 X.rq.un, .int .i64 X.rq.kind, .slice X.rq.pa X.rq.pn X.rq.pc, .slice X.ca X.cn X.cc] 27) := ⟨_, rfl⟩
        have hbW : Below w1.heap.size w1 W2 := by rw [hW2]; exact ((Below.refl _ _).alloc (Nat.le_refl _) _).alloc (by simp) _
        have hszW : W2.heap.size = w1.heap.size + 2 := by rw [hW2]; simp
        have hL : W2.heap[w1.heap.size + 1]? = some (.cells (acCells X).toArray 27 (0, 0)) := by
          have := heap_alloc_new (w1.alloc (.cells #[.int .i64 X.kind, .int .i64 X.n, .int .i64 X.rq.queue, .int .i64 X.rq.fr, .int .i64 X.rq.un, .int .i64 X.rq.kind, .slice X.rq.pa X.rq.pn X.rq.pc, .slice X.ca X.cn X.cc] 27)) (.cells #[.int .i64 X.kind, .int .i64 X.n, .int .i64 X.rq.queue, .int .i64 X.rq.fr, .int .i64 X.rq.un, .int .i64 X.rq.kind, .slice X.rq.pa X.rq.pn X.rq.pc, .slice X.ca X.cn X.cc] 27)
          rw [World.size_alloc] at this
          rw [hW2]
          exact this
        have hrow2 := ownsRow_later (ownsRow_later HROW.out hb1) hbW
        have hown : ∀ y, (Value.slice a l.length c).ownBlock = some y → S ≤ y ∧ y < wr.heap.size := fun y e => HROW.out.lt y e
        obtain ⟨g, k, w3, hrun, ho, hgr, hfr⟩ := putAct_row W2 S (.slice a l.length c) l hrow2 X (w1.heap.size + 1) hL (by omega) (by omega)
        have hkeep : ∀ y : Ac, AcIn w1 y → AcFar S y (.slice a l.length c) → AcIn w3 y := fun y hy hf => (hy.later hbW).of_blocks (fun h0 b off e => hgr.block b (RunsIn.lt (hy.later hbW).1 h0 e) (fun e2 => (hf.1 h0 b off e).2 e2.symm)) (fun h0 b off e => hgr.block b ((hy.later hbW).2.lt h0 e) (fun e2 => (hf.2 h0 b off e).2 e2.symm))
        have hfX : AcFar S X (.slice a l.length c) := ⟨fun _ b off e => by have := hpX b off e; exact ⟨by omega, fun e2 => by have := (hown b e2).2; omega⟩, fun _ b off e => by have := hcX b off e; exact ⟨by omega, fun e2 => by have := (hown b e2).2; omega⟩⟩
        have hfar : ∀ y : Ac, AcIn w1 y → AcFar S y (.slice a l.length c) → AcFar S y (.slice (some ⟨g, 0, none⟩) (l.length + 1) k) := fun y hy hf => ⟨fun h0 b off e => ⟨(hf.1 h0 b off e).1, fun e2 => by
          have e3 : g = b := by simpa [Value.ownBlock] using e2
          have h1 := RunsIn.lt hy.1 h0 e
          rcases hfr with h2 | h2
          · exact (hf.1 h0 b off e).2 (by rw [h2, e3])
          · omega⟩, fun h0 b off e => ⟨(hf.2 h0 b off e).1, fun e2 => by
          have e3 : g = b := by simpa [Value.ownBlock] using e2
          have h1 := hy.2.lt h0 e
          rcases hfr with h2 | h2
          · exact (hf.2 h0 b off e).2 (by rw [h2, e3])
          · omega⟩⟩
        have hnew : ∀ y ∈ l ++ [X], AcIn w3 y ∧ AcFar S y (.slice (some ⟨g, 0, none⟩) (l.length + 1) k) := fun y hy => by
          rcases List.mem_append.1 hy with hy | hy
          · have h1 := (HIN.out y hy).1.later hb1
            exact ⟨hkeep y h1 (HIN.out y hy).2, hfar y h1 (HIN.out y hy).2⟩
          · obtain rfl := List.mem_singleton.1 hy
            exact ⟨hkeep _ hin1 hfX, hfar _ hin1 hfX⟩
        have hbw3 : Below S w w3 := ((HB.out.trans (hb1.mono (by omega))).trans (hbW.mono (by omega))).trans ⟨hgr.os, hgr.tape, hgr.output, hgr.size, fun j hj => hgr.block j (by omega) (fun e => by have := (hown j e.symm).1; omega)⟩
        have HNEW := hid hnew
        have HBW3 := hid hbw3
        have HO := hid ho
        have HRD2 := hid (show ReadOf t 0 (l ++ [X]) (m + N) from by
          have := HREAD.out.snoc hwt hat
          rw [← c5, Nat.add_comm] at this
          exact this)
        rw [hW2] at hrun
        have hrun' := hrun 31
        clear hW2 hbW hszW hL hrow2 hown hrun hgr hfr hkeep hfX hfar hnew hbw3 ho hb1 hin1 hat hpX hcX hw hs hs1 hwt c1 c2 c3 c4 c5 hend hsq hN
        go_wp2_with (at_builtin; refine Lib.wpList_append_run _ rfl _ _ _ _ rfl _ _ rfl rfl _ _ hrun' ?_)
        go_roundg (60 - (l.length + 1))
        case rel => exact ⟨l ++ [X], m + N, by go_num, by simp; omega, by simp, by simpa using HO.out, by simpa using HNEW.out, HRD2.out, HBW3.out⟩
        case measure => simp; omega
      · have hwt : ¬ whole t m := fun h => hw (by have := (whole_cut hm).1; rw [← HSQ.out] at this; exact this.2 h)
        have HB1 := hid hb1
        have HNW := hid hwt
        clear hb1 hw hwt
        go_wp2
        go_ret3
        have hs := HB.out.size
        have hs1 := HB1.out.size
        have hbZ : Below w1.heap.size w1 (w1.alloc (.cells #[.int .i64 0, .int .i64 0, .int .i64 0, .int .i64 0, .int .i64 0, .int .i64 0, .slice none 0 0, .slice none 0 0] 27)) := (Below.refl _ _).alloc (Nat.le_refl _) _
        have hrow1 := ownsRow_later (ownsRow_later HROW.out HB1.out) hbZ
        have hbw1 : Below S w w1 := HB.out.trans (HB1.out.mono (by omega))
        refine ⟨by rw [HSS.out]; exact hbw1.alloc (by omega) _, Or.inr ⟨by omega, _, l, m, rfl, row_base hrow1 (by omega), fun x hx => ⟨((HIN.out x hx).1.later HB1.out).later hbZ, AcFar.mono (HIN.out x hx).2 (by omega)⟩, HREAD.out, hl, Or.inr HNW.out⟩⟩
    · obtain hl60 : l.length = 60 := by omega
      have HROW := hid hrow
      have HIN := hid hin
      have HREAD := hid hread
      have HB := hid hb
      have hlt' : ¬ (l.length : Int) < 60 := by omega
      have HL := hid hl60
      clear hrow hin hread hb hl60
      go_wp2
      go_ret3
      exact ⟨by rw [HSS.out]; exact HB.out, Or.inr ⟨by omega, _, l, m, rfl, row_base HROW.out (by omega), fun x hx => ⟨(HIN.out x hx).1, AcFar.mono (HIN.out x hx).2 (by omega)⟩, HREAD.out, hl, Or.inl HL.out⟩⟩
end Go.Proofs.YtckpdfkobdgjeaaGreatDoor
