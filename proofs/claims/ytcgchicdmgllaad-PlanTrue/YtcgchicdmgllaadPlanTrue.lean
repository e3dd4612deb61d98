/- PlanTrue: whatever state and numbers it is handed, the call returns true, and its arguments read afterwards as they read before. -/
import Derived.Test.YtcgchicdmgllaadPlanD
import Derived.Test.YtcgchicdmgllaadFrameS
import Derived.Test.YtcgchicdmgllaadAnyS
import Derived.Deep.DeepCutAuto
namespace Go.Proofs.Ytcgchicdmgllaad
open Go.ChangeShapes Go.WideShapes Go.ChangeAt Go.RowKit

theorem id_at {c n : Int} {l : QL} {b : BL} (h : Sound c n l b) {j : Nat} (hj : j < b.length) : bookAt b (bk b j).id = some j := by
  refine findFrom_at (fun s hs => ?_) hj (by simp)
  have := ids_rise h hj hs
  simp
  omega
theorem low_room {c n : Int} {l : QL} {b : BL} (h : Sound c n l b) {q : Int} (h1 : q < l.length) (hc : c < 48) : ∃ low, leastR (roomR l b q) c 48 = (low, 0) ∧ 0 ≤ low := by
  have hF := room_fine h.clean h1
  have h0 := h.c0
  refine ⟨lowTo (vals (roomR l b q)) c.toNat (48 - c.toNat), ?_, ?_⟩
  · unfold leastR
    rw [if_pos (fine_iff.2 hF), if_pos (by simp [spn]; omega)]
    rfl
  · obtain ⟨_, s, a2, a3, a4⟩ := lowTo_low (vals (roomR l b q)) c.toNat (48 - c.toNat) (by omega)
    rw [a4]
    exact room_left h h1 (by omega) (by omega)

set_option maxRecDepth 100000 in
set_option maxHeartbeats 8000000 in
theorem PlanTrue_walk (w : World) (c n : Int) (ta : Option Addr) (tn tc : Nat) (l : QL) (ba : Option Addr) (bn bc : Nat) (b : BL) (h : StIn w ta tn tc l ba bn bc b) (q : Int) (f0 : -9223372036854775808 ≤ q) (f1 : q ≤ 9223372036854775807) (k : Int) (g0 : -9223372036854775808 ≤ k) (g1 : k ≤ 9223372036854775807) :
    Calls Try.prog 3 #[.agg #[.int .i64 c, .int .i64 n, .slice ta tn tc, .slice ba bn bc], .int .i64 q, .int .i64 k] w fun e w' => e = .returned (.bool true) ∧ Below w.heap.size w w' := by
  obtain ⟨S, hS⟩ : ∃ S, w.heap.size = S := ⟨_, rfl⟩
  obtain ⟨W1, hW1⟩ : ∃ W1, W1 = w.alloc (.cells #[.int .i64 c, .int .i64 n, .slice ta tn tc, .slice ba bn bc] 25) := ⟨_, rfl⟩
  have hb0 : Below w.heap.size w W1 := by rw [hW1]; exact (Below.refl _ _).alloc (Nat.le_refl _) _
  have KS : Hid (∀ X : World, Below W1.heap.size W1 X → X.cell? ⟨S, 0, none⟩ = some (.int .i64 c) ∧ X.cell? ⟨S, 1, none⟩ = some (.int .i64 n) ∧ X.cell? ⟨S, 2, none⟩ = some (.slice ta tn tc) ∧ X.cell? ⟨S, 3, none⟩ = some (.slice ba bn bc)) := by
    intro X hX
    rw [← hS]
    rw [hW1] at hX
    exact st_cells w c n ta tn tc ba bn bc X hX
  have K1 := CheckS_any W1 c n ta tn tc l ba bn bc b (h.later hb0)
  have HST := hid h
  have HB0 := hid hb0
  have HW1 := hid hW1
  have htle := h.1.le
  have htcb := h.1.capb
  have hble := h.2.le
  have hbcb := h.2.capb
  clear hb0 hW1 h
  by_cases he : planE c n l b = 0
  · have HSO := hid (sound_of he)
    rw [he] at K1
    have HK1 := hid K1
    have htn := HST.out.1.len
    have hbn := HST.out.2.len
    have t0 : 0 < tn := by have := (right_of HSO.out.clean.tree).pos; omega
    have t5 : tn ≤ 5 := by have := (right_of HSO.out.clean.tree).five; omega
    have b12 : bn ≤ 12 := by have := HSO.out.clean.few; omega
    have ht0 : ¬ (tn : Int) = 0 := by omega
    have hql : ((chosen q tn : Nat) : Int) < l.length := by have := chosen_lt (c := q) t0; omega
    have KO := hid fun X (hX : Below w.heap.size w X) => RoomOf_ok X ta tn tc l (HST.out.1.later hX) ba bn bc b (HST.out.2.later hX) (chosen q tn) (chkL_clean HSO.out.clean) (by omega) (by omega)
    have HTN := hid htn
    have HBN := hid hbn
    obtain ⟨c0, c1, c2, c3⟩ := KS.out W1 (Below.refl _ _)
    clear he K1 htn hbn
    go_enter Try.func3, Try.ntmps3
    go_wp2_with fail
    rw [← HW1.out]
    refine HK1.out.mono ?_
    rintro e w1 ⟨rfl, hb⟩
    obtain ⟨d0, d1, d2, d3⟩ := KS.out w1 hb
    have HB1 := hid (below_from HB0.out hb)
    have HB1' := hid hb
    have C2 := hid d2
    have C3 := hid d3
    have KO1 := hid fun X (hX : Below w1.heap.size w1 X) => KO.out X (below_from HB1.out hX)
    clear hb c0 c1 c2 c3 KO
    go_wp2_with fail
    go_cut [7, 8] (fun p r wx => ∃ Wn, Wn = wx ∧ ∃ a9 n9 c9, p = .slice a9 n9 c9 ∧ r = .int .i64 0 ∧ RunsIn wx a9 n9 c9 (roomR l b (chosen q tn)) ∧ Below w1.heap.size w1 wx)
    case first =>
      refine wp_region_des ((Try.f3.body.bind fun c => regOps c 3).getD #[]) (by kernel_rfl) [isV (.pointer (some ⟨S, 2, none⟩)), isV (.slice ta tn tc), isV (.pointer (some ⟨S, 3, none⟩)), isV (.slice ba bn bc), isV (.int .i64 q), isV (.pointer (some ⟨S, 2, none⟩)), isV (.slice ta tn tc), isV (.int .i64 tn), isV (.int .i64 (chosen q tn)), ⟨fun v Z => ∃ a n c, v = .tuple #[.slice a n c, .int .i64 0] ∧ RunsIn Z a n c (roomR l b (chosen q tn)), fun _ _ _ ⟨a, n, c, h1, h2⟩ hb => ⟨a, n, c, h1, h2.later hb⟩⟩, ⟨fun v Z => ∃ a n c, v = .tuple #[.slice a n c, .int .i64 0] ∧ RunsIn Z a n c (roomR l b (chosen q tn)), fun _ _ _ ⟨a, n, c, h1, h2⟩ hb => ⟨a, n, c, h1, h2.later hb⟩⟩, ⟨fun v Z => ∃ a n c, v = .slice a n c ∧ RunsIn Z a n c (roomR l b (chosen q tn)), fun _ _ _ ⟨a, n, c, h1, h2⟩ hb => ⟨a, n, c, h1, h2.later hb⟩⟩, isV (.int .i64 0), ⟨fun v Z => ∃ a n c, v = .slice a n c ∧ RunsIn Z a n c (roomR l b (chosen q tn)), fun _ _ _ ⟨a, n, c, h1, h2⟩ hb => ⟨a, n, c, h1, h2.later hb⟩⟩, isV (.int .i64 0)] [] (by kernel_rfl) (by kernel_rfl) (by kernel_rfl) ?hg ?hstep ?hfin
      case hg =>
        intro g hg v w h
        cases hg
      case hstep =>
        refine AllOps.cons 1 rfl ?_ ?_
        · intro T w' hb hl hd
          have h0 : T.getD 3 undef = .pointer (some ⟨S, 0, none⟩) := hl 3 (by kernel_rfl)
          exact Or.inl ⟨.pointer (some ⟨S, 2, none⟩), w', by go_simp, rfl, Below.refl _ _⟩
        refine AllOps.cons 2 rfl ?_ ?_
        · intro T w' hb hl hd
          have h0 : T.getD 27 undef = .pointer (some ⟨S, 2, none⟩) := hd 0 27 (by kernel_rfl)
          have cc := cell_later hb C2.out
          exact Or.inl ⟨.slice ta tn tc, w', by go_simp, rfl, Below.refl _ _⟩
        refine AllOps.cons 3 rfl ?_ ?_
        · intro T w' hb hl hd
          have h0 : T.getD 3 undef = .pointer (some ⟨S, 0, none⟩) := hl 3 (by kernel_rfl)
          exact Or.inl ⟨.pointer (some ⟨S, 3, none⟩), w', by go_simp, rfl, Below.refl _ _⟩
        refine AllOps.cons 4 rfl ?_ ?_
        · intro T w' hb hl hd
          have h0 : T.getD 29 undef = .pointer (some ⟨S, 3, none⟩) := hd 2 29 (by kernel_rfl)
          have cc := cell_later hb C3.out
          exact Or.inl ⟨.slice ba bn bc, w', by go_simp, rfl, Below.refl _ _⟩
        refine AllOps.cons 5 rfl ?_ ?_
        · intro T w' hb hl hd
          have h0 : T.getD 1 undef = .int .i64 q := hl 1 (by kernel_rfl)
          exact Or.inl ⟨.int .i64 q, w', by go_simp, rfl, Below.refl _ _⟩
        refine AllOps.cons 6 rfl ?_ ?_
        · intro T w' hb hl hd
          have h0 : T.getD 3 undef = .pointer (some ⟨S, 0, none⟩) := hl 3 (by kernel_rfl)
          exact Or.inl ⟨.pointer (some ⟨S, 2, none⟩), w', by go_simp, rfl, Below.refl _ _⟩
        refine AllOps.cons 7 rfl ?_ ?_
        · intro T w' hb hl hd
          have h0 : T.getD 32 undef = .pointer (some ⟨S, 2, none⟩) := hd 5 32 (by kernel_rfl)
          have cc := cell_later hb C2.out
          exact Or.inl ⟨.slice ta tn tc, w', by go_simp, rfl, Below.refl _ _⟩
        refine AllOps.cons 8 rfl ?_ ?_
        · intro T w' hb hl hd
          have h0 : T.getD 33 undef = .slice ta tn tc := hd 6 33 (by kernel_rfl)
          exact Or.inl ⟨.int .i64 tn, w', by go_simp, rfl, Below.refl _ _⟩
        refine AllOps.cons 9 rfl ?_ ?_
        · intro T w' hb hl hd
          have h0 : T.getD 31 undef = .int .i64 q := hd 4 31 (by kernel_rfl)
          have h1 : T.getD 34 undef = .int .i64 tn := hd 7 34 (by kernel_rfl)
          refine Or.inr ⟨10, #[.int .i64 q, .int .i64 tn], by go_simp, ?_⟩
          refine (choose_at q tn w' f0 f1 t0 (by omega)).mono ?_
          rintro e w'' ⟨rfl, rfl⟩
          exact ⟨_, rfl, rfl, Below.refl _ _⟩
        refine AllOps.cons 10 rfl ?_ ?_
        · intro T w' hb hl hd
          have h0 : T.getD 28 undef = .slice ta tn tc := hd 1 28 (by kernel_rfl)
          have h1 : T.getD 30 undef = .slice ba bn bc := hd 3 30 (by kernel_rfl)
          have h2 : T.getD 35 undef = .int .i64 (chosen q tn) := hd 8 35 (by kernel_rfl)
          refine Or.inr ⟨9, #[.slice ta tn tc, .slice ba bn bc, .int .i64 (chosen q tn)], by go_simp, ?_⟩
          refine (KO1.out w' hb).mono ?_
          rintro e w'' ⟨a9, n9, c9, rfl, hr, hbb⟩
          exact ⟨_, rfl, ⟨a9, n9, c9, rfl, hr⟩, hbb⟩
        refine AllOps.cons 11 rfl ?_ ?_
        · intro T w' hb hl hd
          obtain ⟨a9, n9, c9, h0, hr⟩ := hd 9 36 (by kernel_rfl)
          exact Or.inl ⟨.tuple #[.slice a9 n9 c9, .int .i64 0], w', by go_simp, ⟨a9, n9, c9, rfl, hr⟩, Below.refl _ _⟩
        refine AllOps.cons 12 rfl ?_ ?_
        · intro T w' hb hl hd
          obtain ⟨a9, n9, c9, h0, hr⟩ := hd 10 26 (by kernel_rfl)
          exact Or.inl ⟨.slice a9 n9 c9, w', by go_simp, ⟨a9, n9, c9, rfl, hr⟩, Below.refl _ _⟩
        refine AllOps.cons 13 rfl ?_ ?_
        · intro T w' hb hl hd
          obtain ⟨a9, n9, c9, h0, hr⟩ := hd 10 26 (by kernel_rfl)
          exact Or.inl ⟨.int .i64 0, w', by go_simp, rfl, Below.refl _ _⟩
        refine AllOps.cons 14 rfl ?_ ?_
        · intro T w' hb hl hd
          obtain ⟨a9, n9, c9, h0, hr⟩ := hd 11 37 (by kernel_rfl)
          exact Or.inl ⟨.slice a9 n9 c9, w', by go_simp, ⟨a9, n9, c9, rfl, hr⟩, Below.refl _ _⟩
        refine AllOps.cons 15 rfl ?_ ?_
        · intro T w' hb hl hd
          have h0 : T.getD 38 undef = .int .i64 0 := hd 12 38 (by kernel_rfl)
          exact Or.inl ⟨.int .i64 0, w', by go_simp, rfl, Below.refl _ _⟩
        exact trivial
      case hfin =>
        intro T w' hb hs hl hd
        obtain ⟨a9, n9, c9, e7, hr⟩ := hd 13 7 (by kernel_rfl)
        have e8 : T.getD 8 undef = .int .i64 0 := hd 14 8 (by kernel_rfl)
        rw [lit_then [true, true, true, true, true, true, true, false, false, true, true, true, true, true, true, true, true, true, true, true, true, true, true, true, true, true, false, false, false, false, false, false, false, false, false, false, false, false, false, true, true, true, true, true, true, true, true, true, true, true, true, true, true, true, true, true, true, true, true, true, true, true, true, true, true, true, true, true, true, true, true, true, true, true, true, true, true, true, true, true, true, true, true, true, true, true, true, true, true, true, true, true, true, true, true, true, true, true, true, true, true, true, true, true, true, true, true, true, true, true, true, true, true, true, true, true, true] (by kernel_rfl) hs hl]
        obtain ⟨us, hus⟩ : ∃ us : Nat → Value, (fun d => T.getD d undef) = us := ⟨_, rfl⟩
        rw [hus]
        have f7 : us 7 = .slice a9 n9 c9 := by rw [← hus]; exact e7
        have f8 : us 8 = .int .i64 0 := by rw [← hus]; exact e8
        apply_assumption
        simp only [fillL]
        go_meet
        exact ⟨_, rfl, a9, n9, c9, f7, f8, hr, hb⟩
    case rest =>
      obtain ⟨w2, rfl, a9, n9, c9, rfl, rfl, hr, hb⟩ := hcut
      obtain ⟨x0, x1, x2, x3⟩ := KS.out w2 (below_from HB1'.out hb)
      have HR := hid hr
      have HB2 := hid (below_from HB1.out hb)
      have HB2' := hid (below_from HB1'.out hb)
      clear hr hb d0 d1 d2 d3
      by_cases hc48 : c < 48
      · obtain ⟨low, hl1, hl2⟩ := low_room HSO.out hql hc48
        have KL := Least_any w2 a9 n9 c9 _ c 48 HR.out
        rw [hl1] at KL
        have HKL := hid KL
        have hl3 : ¬ low < 0 := by omega
        clear KL hl1
        go_wp2_with fail
        refine HKL.out.mono ?_
        rintro e w3 ⟨rfl, hb⟩
        obtain ⟨y0, y1, y2, y3⟩ := KS.out w3 (below_from HB2'.out hb)
        have HB3 := hid (below_from HB2.out hb)
        have HB3' := hid (below_from HB2'.out hb)
        clear hb x0 x1 x2 x3
        by_cases hb0 : bn = 0
        · subst hb0
          go_wp2_with fail
          refine (planBegun_any w3).mono ?_
          rintro e w9 ⟨rfl, hb⟩
          have HB9 := hid (below_from HB3.out hb)
          clear hb
          go_wp2
          go_ret
          exact ⟨rfl, HB9.out⟩
        · have hbp : 0 < bn := by omega
          have hb0' : ¬ (bn : Int) = 0 := by omega
          obtain ⟨bb, bo, rfl, HCS⟩ := HST.out.2.cells hbp
          obtain ⟨j, hjj⟩ : ∃ j, chosen k bn = j := ⟨_, rfl⟩
          have hj : j < bn := by rw [← hjj]; exact chosen_lt hbp
          have KJ := hid fun X => choose_at k bn X g0 g1 hbp (by omega)
          rw [hjj] at KJ
          have hjl : j < b.length := by have := HBN.out; omega
          have hjb : (j : Int) < bn := by omega
          have HIA := hid (id_at HSO.out hjl)
          have HMT := hid (clean_at HSO.out.clean (bk_mem hjl)).1
          have HAL := hid (HSO.out.alive j hjl)
          obtain ⟨E0, E1, E2, E3, E4, E5, E6⟩ := HCS j hj
          have HRQ := hid (HST.out.2.rqs j hj)
          have HBT := hid (HST.out.2.bites j hj)
          obtain ⟨X, hX⟩ : ∃ X, bk b j = X := ⟨_, rfl⟩
          rw [hX] at E0 E1 E2 E3 E4 E5 E6 HIA HMT HAL HRQ HBT
          obtain ⟨Wr, hWr⟩ : ∃ Wr, w3 = Wr := ⟨_, rfl⟩
          subst hWr
          replace E0 := hid (cell_later HB3.out E0)
          replace E1 := hid (cell_later HB3.out E1)
          replace E2 := hid (cell_later HB3.out E2)
          replace E3 := hid (cell_later HB3.out E3)
          replace E4 := hid (cell_later HB3.out E4)
          replace E5 := hid (cell_later HB3.out E5)
          replace E6 := hid (cell_later HB3.out E6)
          have B3 := hid y3
          clear HCS hX hjj
          go_wp2_with fail
          go_cut [11] (fun p wx => ∃ Wn, Wn = wx ∧ ∃ P, p = .pointer (some ⟨P, 0, none⟩) ∧ BkBox wx P X ∧ Below w3.heap.size w3 wx)
          case first =>
            refine wp_region_store ((Try.f3.body.bind fun c => regOps c 12).getD #[]) (by kernel_rfl) [isV (.pointer (some ⟨S, 3, none⟩)), isV (.slice (some ⟨bb, bo, none⟩) bn bc), isV (.int .i64 k), isV (.pointer (some ⟨S, 3, none⟩)), isV (.slice (some ⟨bb, bo, none⟩) bn bc), isV (.int .i64 bn), isV (.int .i64 (j : Int)), isV (.pointer (some ⟨bb, bo + j * 7, none⟩)), isV (.agg #[.int .i64 X.id, .int .i64 X.rq.queue, .int .i64 X.rq.fr, .int .i64 X.rq.un, .int .i64 X.rq.kind, .slice X.rq.pa X.rq.pn X.rq.pc, .slice X.ba X.bn X.bc]), ⟨fun v Z => ∃ P, v = .pointer (some ⟨P, 0, none⟩) ∧ Z.heap[P]? = some (.cells #[.int .i64 0, .int .i64 0, .int .i64 0, .int .i64 0, .int .i64 0, .slice none 0 0, .slice none 0 0] 40 (0, 0)) ∧ w3.heap.size ≤ P, fun _ Z Y ⟨P, h1, h2, h3⟩ hb => ⟨P, h1, (hb.block _ (Array.getElem?_eq_some_iff.1 h2).1).trans h2, h3⟩⟩, isV undef] 10 (by kernel_rfl) (by kernel_rfl) (by kernel_rfl) ?hstep
            case hstep =>
              refine AllOps.cons 1 rfl ?_ ?_
              · intro T w' hb hs hl hd
                rw [if_neg (by decide)]
                have h0 : T.getD 3 undef = .pointer (some ⟨S, 0, none⟩) := hl 3 (by kernel_rfl)
                exact Or.inl ⟨.pointer (some ⟨S, 3, none⟩), w', by go_simp, rfl, Below.refl _ _⟩
              refine AllOps.cons 2 rfl ?_ ?_
              · intro T w' hb hs hl hd
                rw [if_neg (by decide)]
                have h0 : T.getD 62 undef = .pointer (some ⟨S, 3, none⟩) := hd 0 62 (by kernel_rfl)
                have cc := cell_later hb B3.out
                exact Or.inl ⟨.slice (some ⟨bb, bo, none⟩) bn bc, w', by go_simp, rfl, Below.refl _ _⟩
              refine AllOps.cons 3 rfl ?_ ?_
              · intro T w' hb hs hl hd
                rw [if_neg (by decide)]
                have h0 : T.getD 2 undef = .int .i64 k := hl 2 (by kernel_rfl)
                exact Or.inl ⟨.int .i64 k, w', by go_simp, rfl, Below.refl _ _⟩
              refine AllOps.cons 4 rfl ?_ ?_
              · intro T w' hb hs hl hd
                rw [if_neg (by decide)]
                have h0 : T.getD 3 undef = .pointer (some ⟨S, 0, none⟩) := hl 3 (by kernel_rfl)
                exact Or.inl ⟨.pointer (some ⟨S, 3, none⟩), w', by go_simp, rfl, Below.refl _ _⟩
              refine AllOps.cons 5 rfl ?_ ?_
              · intro T w' hb hs hl hd
                rw [if_neg (by decide)]
                have h0 : T.getD 65 undef = .pointer (some ⟨S, 3, none⟩) := hd 3 65 (by kernel_rfl)
                have cc := cell_later hb B3.out
                exact Or.inl ⟨.slice (some ⟨bb, bo, none⟩) bn bc, w', by go_simp, rfl, Below.refl _ _⟩
              refine AllOps.cons 6 rfl ?_ ?_
              · intro T w' hb hs hl hd
                rw [if_neg (by decide)]
                have h0 : T.getD 66 undef = .slice (some ⟨bb, bo, none⟩) bn bc := hd 4 66 (by kernel_rfl)
                exact Or.inl ⟨.int .i64 bn, w', by go_simp, rfl, Below.refl _ _⟩
              refine AllOps.cons 7 rfl ?_ ?_
              · intro T w' hb hs hl hd
                rw [if_neg (by decide)]
                have h0 : T.getD 64 undef = .int .i64 k := hd 2 64 (by kernel_rfl)
                have h1 : T.getD 67 undef = .int .i64 bn := hd 5 67 (by kernel_rfl)
                refine Or.inr ⟨10, #[.int .i64 k, .int .i64 bn], by go_simp, ?_⟩
                refine (KJ.out w').mono ?_
                rintro e w'' ⟨rfl, rfl⟩
                exact ⟨_, rfl, rfl, Below.refl _ _⟩
              refine AllOps.cons 8 rfl ?_ ?_
              · intro T w' hb hs hl hd
                rw [if_neg (by decide)]
                have h0 : T.getD 63 undef = .slice (some ⟨bb, bo, none⟩) bn bc := hd 1 63 (by kernel_rfl)
                have h1 : T.getD 68 undef = .int .i64 (j : Int) := hd 6 68 (by kernel_rfl)
                exact Or.inl ⟨.pointer (some ⟨bb, bo + j * 7, none⟩), w', by go_simp, rfl, Below.refl _ _⟩
              refine AllOps.cons 9 rfl ?_ ?_
              · intro T w' hb hs hl hd
                rw [if_neg (by decide)]
                have h0 : T.getD 69 undef = .pointer (some ⟨bb, bo + j * 7, none⟩) := hd 7 69 (by kernel_rfl)
                have e0 := cell_later hb E0.out
                have e1 := cell_later hb E1.out
                have e2 := cell_later hb E2.out
                have e3 := cell_later hb E3.out
                have e4 := cell_later hb E4.out
                have e5 := cell_later hb E5.out
                have e6 := cell_later hb E6.out
                exact Or.inl ⟨.agg #[.int .i64 X.id, .int .i64 X.rq.queue, .int .i64 X.rq.fr, .int .i64 X.rq.un, .int .i64 X.rq.kind, .slice X.rq.pa X.rq.pn X.rq.pc, .slice X.ba X.bn X.bc], w', by go_simp, rfl, Below.refl _ _⟩
              refine AllOps.cons 10 rfl ?_ ?_
              · intro T w' hb hs hl hd
                rw [if_neg (by decide)]
                exact Or.inl ⟨.pointer (some ⟨w'.heap.size, 0, none⟩), w'.alloc (.cells #[.int .i64 0, .int .i64 0, .int .i64 0, .int .i64 0, .int .i64 0, .slice none 0 0, .slice none 0 0] 40), by go_simp, ⟨w'.heap.size, rfl, heap_alloc_new w' _, hb.size⟩, (Below.refl _ _).alloc (Nat.le_refl _) _⟩
              refine AllOps.cons 11 rfl ?_ ?_
              · intro T w' hb hs hl hd
                rw [if_pos rfl]
                replace hs := hs.resolve_right (fun h => h rfl)
                have h0 : T.getD 70 undef = .agg #[.int .i64 X.id, .int .i64 X.rq.queue, .int .i64 X.rq.fr, .int .i64 X.rq.un, .int .i64 X.rq.kind, .slice X.rq.pa X.rq.pn X.rq.pc, .slice X.ba X.bn X.bc] := hd 8 70 (by kernel_rfl)
                obtain ⟨P, h1, hP, hPw⟩ := hd 9 11 (by kernel_rfl)
                have z0 : w'.cell? ⟨P, 0, none⟩ = some (.int .i64 0) := by rw [cell_of_row w' P 0 _ _ _ hP]; rfl
                have z1 : w'.cell? ⟨P, 1, none⟩ = some (.int .i64 0) := by rw [cell_of_row w' P 1 _ _ _ hP]; rfl
                have z2 : w'.cell? ⟨P, 2, none⟩ = some (.int .i64 0) := by rw [cell_of_row w' P 2 _ _ _ hP]; rfl
                have z3 : w'.cell? ⟨P, 3, none⟩ = some (.int .i64 0) := by rw [cell_of_row w' P 3 _ _ _ hP]; rfl
                have z4 : w'.cell? ⟨P, 4, none⟩ = some (.int .i64 0) := by rw [cell_of_row w' P 4 _ _ _ hP]; rfl
                have z5 : w'.cell? ⟨P, 5, none⟩ = some (.slice none 0 0) := by rw [cell_of_row w' P 5 _ _ _ hP]; rfl
                have z6 : w'.cell? ⟨P, 6, none⟩ = some (.slice none 0 0) := by rw [cell_of_row w' P 6 _ _ _ hP]; rfl
                have zf : ∀ m, w'.frozen? ⟨P, m, none⟩ = false := fun m => frozen_of_row w' P m _ _ hP
                have hst := seven_stores w' P 40 _ _ _ _ _ _ _ (.int .i64 X.id) (.int .i64 X.rq.queue) (.int .i64 X.rq.fr) (.int .i64 X.rq.un) (.int .i64 X.rq.kind) (.slice X.rq.pa X.rq.pn X.rq.pc) (.slice X.ba X.bn X.bc) hP
                have hbe : Below w3.heap.size w3 (((((((w'.setCell ⟨P, 0, none⟩ (.int .i64 X.id)).setCell ⟨P, 1, none⟩ (.int .i64 X.rq.queue)).setCell ⟨P, 2, none⟩ (.int .i64 X.rq.fr)).setCell ⟨P, 3, none⟩ (.int .i64 X.rq.un)).setCell ⟨P, 4, none⟩ (.int .i64 X.rq.kind)).setCell ⟨P, 5, none⟩ (.slice X.rq.pa X.rq.pn X.rq.pc)).setCell ⟨P, 6, none⟩ (.slice X.ba X.bn X.bc)) := (((((((hb.setCell (p := ⟨P, 0, none⟩) hPw _).setCell (p := ⟨P, 1, none⟩) hPw _).setCell (p := ⟨P, 2, none⟩) hPw _).setCell (p := ⟨P, 3, none⟩) hPw _).setCell (p := ⟨P, 4, none⟩) hPw _).setCell (p := ⟨P, 5, none⟩) hPw _).setCell (p := ⟨P, 6, none⟩) hPw _)
                refine ⟨(((((((w'.setCell ⟨P, 0, none⟩ (.int .i64 X.id)).setCell ⟨P, 1, none⟩ (.int .i64 X.rq.queue)).setCell ⟨P, 2, none⟩ (.int .i64 X.rq.fr)).setCell ⟨P, 3, none⟩ (.int .i64 X.rq.un)).setCell ⟨P, 4, none⟩ (.int .i64 X.rq.kind)).setCell ⟨P, 5, none⟩ (.slice X.rq.pa X.rq.pn X.rq.pc)).setCell ⟨P, 6, none⟩ (.slice X.ba X.bn X.bc)), by go_simp, ?_⟩
                show _
                rw [lit_then [true, true, true, true, true, true, true, true, true, true, true, false, true, true, true, true, true, true, true, true, true, true, true, true, true, true, true, true, true, true, true, true, true, true, true, true, true, true, true, true, true, true, true, true, true, true, true, true, true, true, true, true, true, true, true, true, true, true, true, true, true, true, false, false, false, false, false, false, false, false, false, true, true, true, true, true, true, true, true, true, true, true, true, true, true, true, true, true, true, true, true, true, true, true, true, true, true, true, true, true, true, true, true, true, true, true, true, true, true, true, true, true, true, true, true, true, true] (by kernel_rfl) hs hl]
                obtain ⟨us, hus⟩ : ∃ us : Nat → Value, (fun d => T.getD d undef) = us := ⟨_, rfl⟩
                rw [hus]
                have f11 : us 11 = .pointer (some ⟨P, 0, none⟩) := by rw [← hus]; exact h1
                clear hus hl hs hd
                apply_assumption
                simp only [fillL]
                go_meet
                exact ⟨_, rfl, P, f11, hst.1, hbe⟩
              exact trivial
          case rest =>
            obtain ⟨w4, rfl, P, rfl, hP, hb⟩ := hcut
            have HP := hid hP
            have HB4 := hid (below_from HB3.out hb)
            have HB4' := hid (below_from HB3'.out hb)
            obtain ⟨z0, z1, z2, z3, z4, z5, z6⟩ := hP.cells
            have KV := Over_any w4 X.rq (RqIn.later HRQ.out HB4.out) X.ba X.bn X.bc X.bs (HBT.out.later HB4.out)
            obtain ⟨ov1, ov2⟩ := overV_met HMT.out
            rw [if_pos ov1, if_pos ov1, ← ov2] at KV
            have HKV := hid KV
            obtain ⟨V, hV⟩ : ∃ V, overV X = V := ⟨_, rfl⟩
            rw [hV] at HKV HAL
            have hal : c < V := HAL.out
            clear hP hb KV ov1 ov2 hV y0 y1 y2 y3
            go_wp2_with fail
            refine HKV.out.mono ?_
            rintro e w5 ⟨rfl, hb⟩
            obtain ⟨y0, y1, y2, y3⟩ := KS.out w5 (below_from HB4'.out hb)
            obtain ⟨u0, u1, u2, u3, u4, u5, u6⟩ := (HP.out.later hb).cells
            have HB5 := hid (below_from HB4.out hb)
            have HB5' := hid (below_from HB4'.out hb)
            have HP5 := hid (HP.out.later hb)
            have KF := FindS_any w5 c n ta tn tc l _ bn bc b (HST.out.later HB5.out) X.id
            have ef : findE c n l b X.id = 0 := by unfold findE; rw [if_pos (planE_ok HSO.out), HIA.out]; rfl
            have ei : findI c n l b X.id = j := by unfold findI; rw [if_pos (planE_ok HSO.out), HIA.out]
            rw [ef, ei] at KF
            have HKF := hid KF
            clear hb KF ef ei z0 z1 z2 z3 z4 z5 z6
            go_wp2_with fail
            refine HKF.out.mono ?_
            rintro e w6 ⟨rfl, hb⟩
            have HB6 := hid (below_from HB5.out hb)
            have HB6' := hid (below_from HB5'.out hb)
            have HP6 := hid (HP5.out.later hb)
            clear hb u0 u1 u2 u3 u4 u5 u6 y0 y1 y2 y3
            go_wp2_with fail
            refine (planBegun_any w6).mono ?_
            rintro e w7 ⟨rfl, hb⟩
            obtain ⟨y0, y1, y2, y3⟩ := KS.out w7 (below_from HB6'.out hb)
            obtain ⟨u0, u1, u2, u3, u4, u5, u6⟩ := (HP6.out.later hb).cells
            have HB7 := hid (below_from HB6.out hb)
            have HB7' := hid (below_from HB6'.out hb)
            have KM := Meets_any w7 X.rq (RqIn.later HRQ.out HB7.out) X.ba X.bn X.bc X.bs (HBT.out.later HB7.out)
            rw [HMT.out] at KM
            have HKM := hid KM
            clear hb KM
            go_wp2_with fail
            refine HKM.out.mono ?_
            rintro e w8 ⟨rfl, hb⟩
            obtain ⟨v0, v1, v2, v3⟩ := KS.out w8 (below_from HB7'.out hb)
            have HB8 := hid (below_from HB7.out hb)
            clear hb u0 u1 u2 u3 u4 u5 u6 y0 y1 y2 y3
            go_wp2_with fail
            refine (KJ.out w8).mono ?_
            rintro e w9 ⟨rfl, rfl⟩
            go_wp2
            go_ret
            exact ⟨rfl, HB8.out⟩
      · obtain ⟨y0, y1, y2, y3⟩ := KS.out w2 HB2'.out
        have HB3 := hid HB2.out
        have HB3' := hid HB2'.out
        clear x0 x1 x2 x3
        by_cases hb0 : bn = 0
        · subst hb0
          go_wp2_with fail
          refine (planBegun_any w2).mono ?_
          rintro e w9 ⟨rfl, hb⟩
          have HB9 := hid (below_from HB3.out hb)
          clear hb
          go_wp2
          go_ret
          exact ⟨rfl, HB9.out⟩
        · have hbp : 0 < bn := by omega
          have hb0' : ¬ (bn : Int) = 0 := by omega
          obtain ⟨bb, bo, rfl, HCS⟩ := HST.out.2.cells hbp
          obtain ⟨j, hjj⟩ : ∃ j, chosen k bn = j := ⟨_, rfl⟩
          have hj : j < bn := by rw [← hjj]; exact chosen_lt hbp
          have KJ := hid fun X => choose_at k bn X g0 g1 hbp (by omega)
          rw [hjj] at KJ
          have hjl : j < b.length := by have := HBN.out; omega
          have hjb : (j : Int) < bn := by omega
          have HIA := hid (id_at HSO.out hjl)
          have HMT := hid (clean_at HSO.out.clean (bk_mem hjl)).1
          have HAL := hid (HSO.out.alive j hjl)
          obtain ⟨E0, E1, E2, E3, E4, E5, E6⟩ := HCS j hj
          have HRQ := hid (HST.out.2.rqs j hj)
          have HBT := hid (HST.out.2.bites j hj)
          obtain ⟨X, hX⟩ : ∃ X, bk b j = X := ⟨_, rfl⟩
          rw [hX] at E0 E1 E2 E3 E4 E5 E6 HIA HMT HAL HRQ HBT
          obtain ⟨Wr, hWr⟩ : ∃ Wr, w2 = Wr := ⟨_, rfl⟩
          subst hWr
          replace E0 := hid (cell_later HB3.out E0)
          replace E1 := hid (cell_later HB3.out E1)
          replace E2 := hid (cell_later HB3.out E2)
          replace E3 := hid (cell_later HB3.out E3)
          replace E4 := hid (cell_later HB3.out E4)
          replace E5 := hid (cell_later HB3.out E5)
          replace E6 := hid (cell_later HB3.out E6)
          have B3 := hid y3
          clear HCS hX hjj
          go_wp2_with fail
          go_cut [11] (fun p wx => ∃ Wn, Wn = wx ∧ ∃ P, p = .pointer (some ⟨P, 0, none⟩) ∧ BkBox wx P X ∧ Below w2.heap.size w2 wx)
          case first =>
            refine wp_region_store ((Try.f3.body.bind fun c => regOps c 12).getD #[]) (by kernel_rfl) [isV (.pointer (some ⟨S, 3, none⟩)), isV (.slice (some ⟨bb, bo, none⟩) bn bc), isV (.int .i64 k), isV (.pointer (some ⟨S, 3, none⟩)), isV (.slice (some ⟨bb, bo, none⟩) bn bc), isV (.int .i64 bn), isV (.int .i64 (j : Int)), isV (.pointer (some ⟨bb, bo + j * 7, none⟩)), isV (.agg #[.int .i64 X.id, .int .i64 X.rq.queue, .int .i64 X.rq.fr, .int .i64 X.rq.un, .int .i64 X.rq.kind, .slice X.rq.pa X.rq.pn X.rq.pc, .slice X.ba X.bn X.bc]), ⟨fun v Z => ∃ P, v = .pointer (some ⟨P, 0, none⟩) ∧ Z.heap[P]? = some (.cells #[.int .i64 0, .int .i64 0, .int .i64 0, .int .i64 0, .int .i64 0, .slice none 0 0, .slice none 0 0] 40 (0, 0)) ∧ w2.heap.size ≤ P, fun _ Z Y ⟨P, h1, h2, h3⟩ hb => ⟨P, h1, (hb.block _ (Array.getElem?_eq_some_iff.1 h2).1).trans h2, h3⟩⟩, isV undef] 10 (by kernel_rfl) (by kernel_rfl) (by kernel_rfl) ?hstep
            case hstep =>
              refine AllOps.cons 1 rfl ?_ ?_
              · intro T w' hb hs hl hd
                rw [if_neg (by decide)]
                have h0 : T.getD 3 undef = .pointer (some ⟨S, 0, none⟩) := hl 3 (by kernel_rfl)
                exact Or.inl ⟨.pointer (some ⟨S, 3, none⟩), w', by go_simp, rfl, Below.refl _ _⟩
              refine AllOps.cons 2 rfl ?_ ?_
              · intro T w' hb hs hl hd
                rw [if_neg (by decide)]
                have h0 : T.getD 62 undef = .pointer (some ⟨S, 3, none⟩) := hd 0 62 (by kernel_rfl)
                have cc := cell_later hb B3.out
                exact Or.inl ⟨.slice (some ⟨bb, bo, none⟩) bn bc, w', by go_simp, rfl, Below.refl _ _⟩
              refine AllOps.cons 3 rfl ?_ ?_
              · intro T w' hb hs hl hd
                rw [if_neg (by decide)]
                have h0 : T.getD 2 undef = .int .i64 k := hl 2 (by kernel_rfl)
                exact Or.inl ⟨.int .i64 k, w', by go_simp, rfl, Below.refl _ _⟩
              refine AllOps.cons 4 rfl ?_ ?_
              · intro T w' hb hs hl hd
                rw [if_neg (by decide)]
                have h0 : T.getD 3 undef = .pointer (some ⟨S, 0, none⟩) := hl 3 (by kernel_rfl)
                exact Or.inl ⟨.pointer (some ⟨S, 3, none⟩), w', by go_simp, rfl, Below.refl _ _⟩
              refine AllOps.cons 5 rfl ?_ ?_
              · intro T w' hb hs hl hd
                rw [if_neg (by decide)]
                have h0 : T.getD 65 undef = .pointer (some ⟨S, 3, none⟩) := hd 3 65 (by kernel_rfl)
                have cc := cell_later hb B3.out
                exact Or.inl ⟨.slice (some ⟨bb, bo, none⟩) bn bc, w', by go_simp, rfl, Below.refl _ _⟩
              refine AllOps.cons 6 rfl ?_ ?_
              · intro T w' hb hs hl hd
                rw [if_neg (by decide)]
                have h0 : T.getD 66 undef = .slice (some ⟨bb, bo, none⟩) bn bc := hd 4 66 (by kernel_rfl)
                exact Or.inl ⟨.int .i64 bn, w', by go_simp, rfl, Below.refl _ _⟩
              refine AllOps.cons 7 rfl ?_ ?_
              · intro T w' hb hs hl hd
                rw [if_neg (by decide)]
                have h0 : T.getD 64 undef = .int .i64 k := hd 2 64 (by kernel_rfl)
                have h1 : T.getD 67 undef = .int .i64 bn := hd 5 67 (by kernel_rfl)
                refine Or.inr ⟨10, #[.int .i64 k, .int .i64 bn], by go_simp, ?_⟩
                refine (KJ.out w').mono ?_
                rintro e w'' ⟨rfl, rfl⟩
                exact ⟨_, rfl, rfl, Below.refl _ _⟩
              refine AllOps.cons 8 rfl ?_ ?_
              · intro T w' hb hs hl hd
                rw [if_neg (by decide)]
                have h0 : T.getD 63 undef = .slice (some ⟨bb, bo, none⟩) bn bc := hd 1 63 (by kernel_rfl)
                have h1 : T.getD 68 undef = .int .i64 (j : Int) := hd 6 68 (by kernel_rfl)
                exact Or.inl ⟨.pointer (some ⟨bb, bo + j * 7, none⟩), w', by go_simp, rfl, Below.refl _ _⟩
              refine AllOps.cons 9 rfl ?_ ?_
              · intro T w' hb hs hl hd
                rw [if_neg (by decide)]
                have h0 : T.getD 69 undef = .pointer (some ⟨bb, bo + j * 7, none⟩) := hd 7 69 (by kernel_rfl)
                have e0 := cell_later hb E0.out
                have e1 := cell_later hb E1.out
                have e2 := cell_later hb E2.out
                have e3 := cell_later hb E3.out
                have e4 := cell_later hb E4.out
                have e5 := cell_later hb E5.out
                have e6 := cell_later hb E6.out
                exact Or.inl ⟨.agg #[.int .i64 X.id, .int .i64 X.rq.queue, .int .i64 X.rq.fr, .int .i64 X.rq.un, .int .i64 X.rq.kind, .slice X.rq.pa X.rq.pn X.rq.pc, .slice X.ba X.bn X.bc], w', by go_simp, rfl, Below.refl _ _⟩
              refine AllOps.cons 10 rfl ?_ ?_
              · intro T w' hb hs hl hd
                rw [if_neg (by decide)]
                exact Or.inl ⟨.pointer (some ⟨w'.heap.size, 0, none⟩), w'.alloc (.cells #[.int .i64 0, .int .i64 0, .int .i64 0, .int .i64 0, .int .i64 0, .slice none 0 0, .slice none 0 0] 40), by go_simp, ⟨w'.heap.size, rfl, heap_alloc_new w' _, hb.size⟩, (Below.refl _ _).alloc (Nat.le_refl _) _⟩
              refine AllOps.cons 11 rfl ?_ ?_
              · intro T w' hb hs hl hd
                rw [if_pos rfl]
                replace hs := hs.resolve_right (fun h => h rfl)
                have h0 : T.getD 70 undef = .agg #[.int .i64 X.id, .int .i64 X.rq.queue, .int .i64 X.rq.fr, .int .i64 X.rq.un, .int .i64 X.rq.kind, .slice X.rq.pa X.rq.pn X.rq.pc, .slice X.ba X.bn X.bc] := hd 8 70 (by kernel_rfl)
                obtain ⟨P, h1, hP, hPw⟩ := hd 9 11 (by kernel_rfl)
                have z0 : w'.cell? ⟨P, 0, none⟩ = some (.int .i64 0) := by rw [cell_of_row w' P 0 _ _ _ hP]; rfl
                have z1 : w'.cell? ⟨P, 1, none⟩ = some (.int .i64 0) := by rw [cell_of_row w' P 1 _ _ _ hP]; rfl
                have z2 : w'.cell? ⟨P, 2, none⟩ = some (.int .i64 0) := by rw [cell_of_row w' P 2 _ _ _ hP]; rfl
                have z3 : w'.cell? ⟨P, 3, none⟩ = some (.int .i64 0) := by rw [cell_of_row w' P 3 _ _ _ hP]; rfl
                have z4 : w'.cell? ⟨P, 4, none⟩ = some (.int .i64 0) := by rw [cell_of_row w' P 4 _ _ _ hP]; rfl
                have z5 : w'.cell? ⟨P, 5, none⟩ = some (.slice none 0 0) := by rw [cell_of_row w' P 5 _ _ _ hP]; rfl
                have z6 : w'.cell? ⟨P, 6, none⟩ = some (.slice none 0 0) := by rw [cell_of_row w' P 6 _ _ _ hP]; rfl
                have zf : ∀ m, w'.frozen? ⟨P, m, none⟩ = false := fun m => frozen_of_row w' P m _ _ hP
                have hst := seven_stores w' P 40 _ _ _ _ _ _ _ (.int .i64 X.id) (.int .i64 X.rq.queue) (.int .i64 X.rq.fr) (.int .i64 X.rq.un) (.int .i64 X.rq.kind) (.slice X.rq.pa X.rq.pn X.rq.pc) (.slice X.ba X.bn X.bc) hP
                have hbe : Below w2.heap.size w2 (((((((w'.setCell ⟨P, 0, none⟩ (.int .i64 X.id)).setCell ⟨P, 1, none⟩ (.int .i64 X.rq.queue)).setCell ⟨P, 2, none⟩ (.int .i64 X.rq.fr)).setCell ⟨P, 3, none⟩ (.int .i64 X.rq.un)).setCell ⟨P, 4, none⟩ (.int .i64 X.rq.kind)).setCell ⟨P, 5, none⟩ (.slice X.rq.pa X.rq.pn X.rq.pc)).setCell ⟨P, 6, none⟩ (.slice X.ba X.bn X.bc)) := (((((((hb.setCell (p := ⟨P, 0, none⟩) hPw _).setCell (p := ⟨P, 1, none⟩) hPw _).setCell (p := ⟨P, 2, none⟩) hPw _).setCell (p := ⟨P, 3, none⟩) hPw _).setCell (p := ⟨P, 4, none⟩) hPw _).setCell (p := ⟨P, 5, none⟩) hPw _).setCell (p := ⟨P, 6, none⟩) hPw _)
                refine ⟨(((((((w'.setCell ⟨P, 0, none⟩ (.int .i64 X.id)).setCell ⟨P, 1, none⟩ (.int .i64 X.rq.queue)).setCell ⟨P, 2, none⟩ (.int .i64 X.rq.fr)).setCell ⟨P, 3, none⟩ (.int .i64 X.rq.un)).setCell ⟨P, 4, none⟩ (.int .i64 X.rq.kind)).setCell ⟨P, 5, none⟩ (.slice X.rq.pa X.rq.pn X.rq.pc)).setCell ⟨P, 6, none⟩ (.slice X.ba X.bn X.bc)), by go_simp, ?_⟩
                show _
                rw [lit_then [true, true, true, true, true, true, true, true, true, true, true, false, true, true, true, true, true, true, true, true, true, true, true, true, true, true, true, true, true, true, true, true, true, true, true, true, true, true, true, true, true, true, true, true, true, true, true, true, true, true, true, true, true, true, true, true, true, true, true, true, true, true, false, false, false, false, false, false, false, false, false, true, true, true, true, true, true, true, true, true, true, true, true, true, true, true, true, true, true, true, true, true, true, true, true, true, true, true, true, true, true, true, true, true, true, true, true, true, true, true, true, true, true, true, true, true, true] (by kernel_rfl) hs hl]
                obtain ⟨us, hus⟩ : ∃ us : Nat → Value, (fun d => T.getD d undef) = us := ⟨_, rfl⟩
                rw [hus]
                have f11 : us 11 = .pointer (some ⟨P, 0, none⟩) := by rw [← hus]; exact h1
                clear hus hl hs hd
                apply_assumption
                simp only [fillL]
                go_meet
                exact ⟨_, rfl, P, f11, hst.1, hbe⟩
              exact trivial
          case rest =>
            obtain ⟨w4, rfl, P, rfl, hP, hb⟩ := hcut
            have HP := hid hP
            have HB4 := hid (below_from HB3.out hb)
            have HB4' := hid (below_from HB3'.out hb)
            obtain ⟨z0, z1, z2, z3, z4, z5, z6⟩ := hP.cells
            have KV := Over_any w4 X.rq (RqIn.later HRQ.out HB4.out) X.ba X.bn X.bc X.bs (HBT.out.later HB4.out)
            obtain ⟨ov1, ov2⟩ := overV_met HMT.out
            rw [if_pos ov1, if_pos ov1, ← ov2] at KV
            have HKV := hid KV
            obtain ⟨V, hV⟩ : ∃ V, overV X = V := ⟨_, rfl⟩
            rw [hV] at HKV HAL
            have hal : c < V := HAL.out
            clear hP hb KV ov1 ov2 hV y0 y1 y2 y3
            go_wp2_with fail
            refine HKV.out.mono ?_
            rintro e w5 ⟨rfl, hb⟩
            obtain ⟨y0, y1, y2, y3⟩ := KS.out w5 (below_from HB4'.out hb)
            obtain ⟨u0, u1, u2, u3, u4, u5, u6⟩ := (HP.out.later hb).cells
            have HB5 := hid (below_from HB4.out hb)
            have HB5' := hid (below_from HB4'.out hb)
            have HP5 := hid (HP.out.later hb)
            have KF := FindS_any w5 c n ta tn tc l _ bn bc b (HST.out.later HB5.out) X.id
            have ef : findE c n l b X.id = 0 := by unfold findE; rw [if_pos (planE_ok HSO.out), HIA.out]; rfl
            have ei : findI c n l b X.id = j := by unfold findI; rw [if_pos (planE_ok HSO.out), HIA.out]
            rw [ef, ei] at KF
            have HKF := hid KF
            clear hb KF ef ei z0 z1 z2 z3 z4 z5 z6
            go_wp2_with fail
            refine HKF.out.mono ?_
            rintro e w6 ⟨rfl, hb⟩
            have HB6 := hid (below_from HB5.out hb)
            have HB6' := hid (below_from HB5'.out hb)
            have HP6 := hid (HP5.out.later hb)
            clear hb u0 u1 u2 u3 u4 u5 u6 y0 y1 y2 y3
            go_wp2_with fail
            refine (planBegun_any w6).mono ?_
            rintro e w7 ⟨rfl, hb⟩
            obtain ⟨y0, y1, y2, y3⟩ := KS.out w7 (below_from HB6'.out hb)
            obtain ⟨u0, u1, u2, u3, u4, u5, u6⟩ := (HP6.out.later hb).cells
            have HB7 := hid (below_from HB6.out hb)
            have HB7' := hid (below_from HB6'.out hb)
            have KM := Meets_any w7 X.rq (RqIn.later HRQ.out HB7.out) X.ba X.bn X.bc X.bs (HBT.out.later HB7.out)
            rw [HMT.out] at KM
            have HKM := hid KM
            clear hb KM
            go_wp2_with fail
            refine HKM.out.mono ?_
            rintro e w8 ⟨rfl, hb⟩
            obtain ⟨v0, v1, v2, v3⟩ := KS.out w8 (below_from HB7'.out hb)
            have HB8 := hid (below_from HB7.out hb)
            clear hb u0 u1 u2 u3 u4 u5 u6 y0 y1 y2 y3
            go_wp2_with fail
            refine (KJ.out w8).mono ?_
            rintro e w9 ⟨rfl, rfl⟩
            go_wp2
            go_ret
            exact ⟨rfl, HB8.out⟩
  · obtain ⟨er, her⟩ : ∃ er, planE c n l b = er := ⟨_, rfl⟩
    rw [her] at K1 he
    have hne : (er != 0) = true := by simp [he]
    have HK1 := hid K1
    obtain ⟨c0, c1, c2, c3⟩ := KS.out W1 (Below.refl _ _)
    clear K1 he her
    go_enter Try.func3, Try.ntmps3
    go_wp2_with fail
    rw [← HW1.out]
    refine HK1.out.mono ?_
    rintro e w1 ⟨rfl, hb⟩
    have HB1 := hid (below_from HB0.out hb)
    clear hb
    go_wp2_with fail
    refine (planBegun_any w1).mono ?_
    rintro e w2 ⟨rfl, hb⟩
    have HB2 := hid (below_from HB1.out hb)
    clear hb
    go_wp2
    go_ret
    exact ⟨rfl, HB2.out⟩

set_option maxRecDepth 100000 in
theorem PlanTrue_lifted (os : Os) (started : os.Started) (H : Type) (enc : TypeId × Value → H) :
    ReturnsInHanded {} Try.checked os 3 .any (Rows.planTrueSpec.pre6 enc Try.prog Try.f3 Rows.planTrueRow.domain false) (Rows.planTrueSpec.post enc Try.prog Try.f3 false true false false) := by
  refine returnsInHanded_of_change (C := Try.checked) own started (by kernel_rfl) Try.func3
    (ChangeSpec.witness6 (enc := enc) (C := Try.checked) false ⟨#[], #[.agg #[.int .i64 0, .int .i64 0, .slice none 0 0, .slice none 0 0], .int .i64 0, .int .i64 0], []⟩ 8 (by kernel_rfl) (by kernel_rfl) (by kernel_rfl) (by kernel_rfl)) ?_
  intro W base args ds gs before hval0 hW hcnd _
  have hval : ∀ (j : Nat) t v, Try.f3.params[j]? = some t → args[j]? = some v → Value.okWide Try.prog W .any base t v := hval0
  have hW' := hW
  obtain ⟨p, q, hA0, hV, rfl, hfz, hnd⟩ := hW
  have hA : DataW.TrodAll enc Try.prog W 0 (fun _ => true) true Try.f3.params.toList args.toList ds p := hA0
  rw [Try.params3] at hA hval
  obtain ⟨v0, vs0, d0, ds0, p0, q0, hargs, rfl, rfl, h0, r0⟩ := trodAll_cons hA
  obtain ⟨v1, vs1, d1, ds1, p1, q1, rfl, rfl, rfl, h1, r1⟩ := trodAll_cons r0
  obtain ⟨v2, vs2, d2, ds2, p2, q2, rfl, rfl, rfl, h2, r2⟩ := trodAll_cons r1
  obtain ⟨rfl, rfl, rfl⟩ := trodAll_nil r2
  obtain rfl : args = #[v0, v1, v2] := by cases args; simp_all
  obtain ⟨rfl, rfl⟩ := trodVars_none hV
  have k0 := h0
  have lt0 : ∀ x ∈ p0, x.block < W.heap.size := by obtain ⟨m, hm⟩ := k0; exact DataW.trod_lt m _ _ _ hm
  obtain ⟨sc0, sn0, sta0, stn0, stc0, sl0, sba0, sbn0, sbc0, sb0, rfl, w0⟩ := st_arg (hval 0 25 v0 rfl rfl) h0
  obtain ⟨a1, rfl, rfl, rfl, w1⟩ := open_int Try.underlying3 (hval 1 3 v1 rfl rfl) h1
  have b1 := wf_range w1
  obtain ⟨a2, rfl, rfl, rfl, w2⟩ := open_int Try.underlying3 (hval 2 3 v2 rfl rfl) h2
  have b2 := wf_range w2
  clear hA0 hval0
  refine (PlanTrue_walk W sc0 sn0 sta0 stn0 stc0 sl0 sba0 sbn0 sbc0 sb0 w0 a1 b1.1 b1.2 a2 b2.1 b2.2).mono fun e W' ⟨he, bel⟩ => ?_
  subst he
  exact ⟨_, rfl, _, _, _, [], _, [], hW', trodAll_mk1 (shut_bool Try.underlying4 _), (trodAll_cons_mk (Below.trod laidOut (by kernel_rfl) (of_decide_eq_true (by kernel_rfl)) k0 bel lt0) (trodAll_cons_mk (shut_int Try.underlying3 w1) (trodAll_cons_mk (shut_int Try.underlying3 w2) trodAll_mk0))), rfl, bel.frame _, fun h => by cases h⟩

theorem PlanTrue_holds : Rows.PlanTrueSaid :=
  OpenClaim.holds_of_wide 3 Try.f3 rfl rfl rfl rfl rfl rfl rfl ⟨rfl, rfl, rfl, rfl, rfl⟩ rfl rfl rfl rfl rfl (by kernel_rfl) Try.func3 (by kernel_rfl)
    (of_decide_eq_true (by kernel_rfl)) (by unfold Func.isWrapper; first | (rw [if_pos (by decide +kernel)]; kernel_rfl) | (rw [if_neg (by decide +kernel)]; exact ⟨rfl, rfl⟩))
    (fun os started H enc _ => PlanTrue_lifted os started H enc)
#print axioms PlanTrue_holds
end Go.Proofs.Ytcgchicdmgllaad
