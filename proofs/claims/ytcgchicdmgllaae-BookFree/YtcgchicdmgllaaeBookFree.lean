/- BookFree: whatever state and number it is handed, the call returns true, and its arguments read afterwards as they read before. -/
import Derived.Test.YtcgchicdmgllaaeBookE
import Derived.Test.YtcgchicdmgllaaeFreeM
import Derived.Test.YtcgchicdmgllaaeFrameS
import Derived.Test.YtcgchicdmgllaaeAnyS
import Derived.Deep.DeepCutAuto
namespace Go.Proofs.Ytcgchicdmgllaae
open Go.ChangeShapes Go.WideShapes Go.ChangeAt Go.RowKit

set_option maxRecDepth 100000 in
set_option maxHeartbeats 8000000 in
theorem BookFree_walk (w : World) (c n : Int) (ta : Option Addr) (tn tc : Nat) (l : QL) (ba : Option Addr) (bn bc : Nat) (b : BL) (h : StIn w ta tn tc l ba bn bc b) (k : Int) (g0 : -9223372036854775808 ≤ k) (g1 : k ≤ 9223372036854775807) :
    Calls Try.prog 3 #[.agg #[.int .i64 c, .int .i64 n, .slice ta tn tc, .slice ba bn bc], .int .i64 k] w fun e w' => e = .returned (.bool true) ∧ Below w.heap.size w w' := by
  obtain ⟨S, hS⟩ : ∃ S, w.heap.size = S := ⟨_, rfl⟩
  obtain ⟨W1, hW1⟩ : ∃ W1, W1 = w.alloc (.cells #[.int .i64 c, .int .i64 n, .slice ta tn tc, .slice ba bn bc] 25) := ⟨_, rfl⟩
  have hb0 : Below w.heap.size w W1 := by rw [hW1]; exact (Below.refl _ _).alloc (Nat.le_refl _) _
  have x1 : StBox W1 S (.int .i64 c) (.int .i64 n) (.slice ta tn tc) (.slice ba bn bc) := by rw [hW1, ← hS]; exact StBox.new w _ _ _ _
  have K1 := CheckS_any W1 c n ta tn tc l ba bn bc b (h.later hb0)
  have HST := hid h
  have HX1 := hid x1
  have HB0 := hid hb0
  have HW1 := hid hW1
  have hble := h.2.le
  have hbcb := h.2.capb
  obtain ⟨c0, c1, c2, c3⟩ := x1.cells
  clear hb0 hW1 h x1
  by_cases he : planE c n l b = 0
  · have HSO := hid (sound_of he)
    have HPE := hid he
    rw [he] at K1
    have HK1 := hid K1
    have hbn := HST.out.2.len
    have b12 : bn ≤ 12 := by have := HSO.out.clean.few; omega
    have HBN := hid hbn
    clear he K1 hbn
    go_enter Try.func3, Try.ntmps3
    go_wp2_with fail
    rw [← HW1.out]
    refine HK1.out.mono ?_
    rintro e w1 ⟨rfl, hb⟩
    have HY1 := hid (HX1.out.later hb)
    have HB1 := hid (below_from HB0.out hb)
    clear hb c0 c1 c2 c3
    obtain ⟨d0, d1, d2, d3⟩ := HY1.out.cells
    by_cases hb0 : bn = 0
    · subst hb0
      go_wp2_with fail
      refine (bookBegun_any w1).mono ?_
      rintro e w9 ⟨rfl, hb⟩
      have HB9 := hid (below_from HB1.out hb)
      clear hb
      go_wp2
      go_ret
      exact ⟨rfl, HB9.out⟩
    · have hbp : 0 < bn := by omega
      have hb0' : ¬ (bn : Int) = 0 := by omega
      obtain ⟨bb, bo, rfl, HCS⟩ := HST.out.2.cells hbp
      obtain ⟨j, hjj⟩ : ∃ j, chosen k bn = j := ⟨_, rfl⟩
      have hj : j < bn := by rw [← hjj]; exact chosen_lt hbp
      have KJ := hid fun X => choose_at k bn X g0 g1 hbp (by omega)
      rw [hjj] at KJ
      have hjl : j < b.length := by have := HBN.out; omega
      have hjb : (j : Int) < bn := by omega
      have HIA := hid (id_of2 HSO.out hjl)
      have HFS := hid fun (l' : QL) (b9 : BL) (hl : bareQ l' = bareQ l) (hb : bareB b9 = bareB (b.take j ++ b.drop (j + 1))) => free_sub HSO.out hjl hl hb
      obtain ⟨E0, E1, E2, E3, E4, E5, E6⟩ := HCS j hj
      have HRQ := hid (HST.out.2.rqs j hj)
      obtain ⟨X, hX⟩ : ∃ X, bk b j = X := ⟨_, rfl⟩
      rw [hX] at E0 E1 E2 E3 E4 E5 E6 HIA HRQ HFS
      replace E0 := hid (cell_later HB1.out E0)
      replace E1 := hid (cell_later HB1.out E1)
      replace E2 := hid (cell_later HB1.out E2)
      replace E3 := hid (cell_later HB1.out E3)
      replace E4 := hid (cell_later HB1.out E4)
      replace E5 := hid (cell_later HB1.out E5)
      replace E6 := hid (cell_later HB1.out E6)
      have B3 := hid d3
      clear HCS hX hjj
      go_wp2_with fail
      go_cut [5] (fun p wx => ∃ Wn, Wn = wx ∧ ∃ P, p = .pointer (some ⟨P, 0, none⟩) ∧ BkBox wx P X ∧ Below w1.heap.size w1 wx)
      case first =>
        refine wp_region_store ((Try.f3.body.bind fun c => regOps c 3).getD #[]) (by kernel_rfl) [isV (.pointer (some ⟨S, 3, none⟩)), isV (.slice (some ⟨bb, bo, none⟩) bn bc), isV (.int .i64 k), isV (.pointer (some ⟨S, 3, none⟩)), isV (.slice (some ⟨bb, bo, none⟩) bn bc), isV (.int .i64 bn), isV (.int .i64 (j : Int)), isV (.pointer (some ⟨bb, bo + j * 7, none⟩)), isV (.agg #[.int .i64 X.id, .int .i64 X.rq.queue, .int .i64 X.rq.fr, .int .i64 X.rq.un, .int .i64 X.rq.kind, .slice X.rq.pa X.rq.pn X.rq.pc, .slice X.ba X.bn X.bc]), ⟨fun v Z => ∃ P, v = .pointer (some ⟨P, 0, none⟩) ∧ Z.heap[P]? = some (.cells #[.int .i64 0, .int .i64 0, .int .i64 0, .int .i64 0, .int .i64 0, .slice none 0 0, .slice none 0 0] 34 (0, 0)) ∧ w1.heap.size ≤ P, fun _ Z Y ⟨P, h1, h2, h3⟩ hb => ⟨P, h1, (hb.block _ (Array.getElem?_eq_some_iff.1 h2).1).trans h2, h3⟩⟩, isV undef] 10 (by kernel_rfl) (by kernel_rfl) (by kernel_rfl) ?hstep
        case hstep =>
          refine AllOps.cons 1 rfl ?_ ?_
          · intro T w' hb hs hl hd
            rw [if_neg (by decide)]
            have h0 : T.getD 2 undef = .pointer (some ⟨S, 0, none⟩) := hl 2 (by kernel_rfl)
            exact Or.inl ⟨.pointer (some ⟨S, 3, none⟩), w', by go_simp, rfl, Below.refl _ _⟩
          refine AllOps.cons 2 rfl ?_ ?_
          · intro T w' hb hs hl hd
            rw [if_neg (by decide)]
            have h0 : T.getD 21 undef = .pointer (some ⟨S, 3, none⟩) := hd 0 21 (by kernel_rfl)
            have cc := cell_later hb B3.out
            exact Or.inl ⟨.slice (some ⟨bb, bo, none⟩) bn bc, w', by go_simp, rfl, Below.refl _ _⟩
          refine AllOps.cons 3 rfl ?_ ?_
          · intro T w' hb hs hl hd
            rw [if_neg (by decide)]
            have h0 : T.getD 1 undef = .int .i64 k := hl 1 (by kernel_rfl)
            exact Or.inl ⟨.int .i64 k, w', by go_simp, rfl, Below.refl _ _⟩
          refine AllOps.cons 4 rfl ?_ ?_
          · intro T w' hb hs hl hd
            rw [if_neg (by decide)]
            have h0 : T.getD 2 undef = .pointer (some ⟨S, 0, none⟩) := hl 2 (by kernel_rfl)
            exact Or.inl ⟨.pointer (some ⟨S, 3, none⟩), w', by go_simp, rfl, Below.refl _ _⟩
          refine AllOps.cons 5 rfl ?_ ?_
          · intro T w' hb hs hl hd
            rw [if_neg (by decide)]
            have h0 : T.getD 24 undef = .pointer (some ⟨S, 3, none⟩) := hd 3 24 (by kernel_rfl)
            have cc := cell_later hb B3.out
            exact Or.inl ⟨.slice (some ⟨bb, bo, none⟩) bn bc, w', by go_simp, rfl, Below.refl _ _⟩
          refine AllOps.cons 6 rfl ?_ ?_
          · intro T w' hb hs hl hd
            rw [if_neg (by decide)]
            have h0 : T.getD 25 undef = .slice (some ⟨bb, bo, none⟩) bn bc := hd 4 25 (by kernel_rfl)
            exact Or.inl ⟨.int .i64 bn, w', by go_simp, rfl, Below.refl _ _⟩
          refine AllOps.cons 7 rfl ?_ ?_
          · intro T w' hb hs hl hd
            rw [if_neg (by decide)]
            have h0 : T.getD 23 undef = .int .i64 k := hd 2 23 (by kernel_rfl)
            have h1 : T.getD 26 undef = .int .i64 bn := hd 5 26 (by kernel_rfl)
            refine Or.inr ⟨6, #[.int .i64 k, .int .i64 bn], by go_simp, ?_⟩
            refine (KJ.out w').mono ?_
            rintro e w'' ⟨rfl, rfl⟩
            exact ⟨_, rfl, rfl, Below.refl _ _⟩
          refine AllOps.cons 8 rfl ?_ ?_
          · intro T w' hb hs hl hd
            rw [if_neg (by decide)]
            have h0 : T.getD 22 undef = .slice (some ⟨bb, bo, none⟩) bn bc := hd 1 22 (by kernel_rfl)
            have h1 : T.getD 27 undef = .int .i64 (j : Int) := hd 6 27 (by kernel_rfl)
            exact Or.inl ⟨.pointer (some ⟨bb, bo + j * 7, none⟩), w', by go_simp, rfl, Below.refl _ _⟩
          refine AllOps.cons 9 rfl ?_ ?_
          · intro T w' hb hs hl hd
            rw [if_neg (by decide)]
            have h0 : T.getD 28 undef = .pointer (some ⟨bb, bo + j * 7, none⟩) := hd 7 28 (by kernel_rfl)
            have e0 := cell_later hb E0.out
            have e1 := cell_later hb E1.out
            have e2 := cell_later hb E2.out
            have e3 := cell_later hb E3.out
            have e4 := cell_later hb E4.out
            have e5 := cell_later hb E5.out
            have e6 := cell_later hb E6.out
            exact Or.inl ⟨.agg #[.int .i64 X.id, .int .i64 X.rq.queue, .int .i64 X.rq.fr, .int .i64 X.rq.un, .int .i64 X.rq.kind, .slice X.rq.pa X.rq.pn X.rq.pc, .slice X.ba X.bn X.bc], w', by go_simp, rfl, Below.refl _ _⟩
          refine AllOps.cons 10 rfl ?_ ?_
          · intro T w' hb hs hl hd
            rw [if_neg (by decide)]
            exact Or.inl ⟨.pointer (some ⟨w'.heap.size, 0, none⟩), w'.alloc (.cells #[.int .i64 0, .int .i64 0, .int .i64 0, .int .i64 0, .int .i64 0, .slice none 0 0, .slice none 0 0] 34), by go_simp, ⟨w'.heap.size, rfl, heap_alloc_new w' _, hb.size⟩, (Below.refl _ _).alloc (Nat.le_refl _) _⟩
          refine AllOps.cons 11 rfl ?_ ?_
          · intro T w' hb hs hl hd
            rw [if_pos rfl]
            replace hs := hs.resolve_right (fun h => h rfl)
            have h0 : T.getD 29 undef = .agg #[.int .i64 X.id, .int .i64 X.rq.queue, .int .i64 X.rq.fr, .int .i64 X.rq.un, .int .i64 X.rq.kind, .slice X.rq.pa X.rq.pn X.rq.pc, .slice X.ba X.bn X.bc] := hd 8 29 (by kernel_rfl)
            obtain ⟨P, h1, hP, hPw⟩ := hd 9 5 (by kernel_rfl)
            have z0 : w'.cell? ⟨P, 0, none⟩ = some (.int .i64 0) := by rw [cell_of_row w' P 0 _ _ _ hP]; rfl
            have z1 : w'.cell? ⟨P, 1, none⟩ = some (.int .i64 0) := by rw [cell_of_row w' P 1 _ _ _ hP]; rfl
            have z2 : w'.cell? ⟨P, 2, none⟩ = some (.int .i64 0) := by rw [cell_of_row w' P 2 _ _ _ hP]; rfl
            have z3 : w'.cell? ⟨P, 3, none⟩ = some (.int .i64 0) := by rw [cell_of_row w' P 3 _ _ _ hP]; rfl
            have z4 : w'.cell? ⟨P, 4, none⟩ = some (.int .i64 0) := by rw [cell_of_row w' P 4 _ _ _ hP]; rfl
            have z5 : w'.cell? ⟨P, 5, none⟩ = some (.slice none 0 0) := by rw [cell_of_row w' P 5 _ _ _ hP]; rfl
            have z6 : w'.cell? ⟨P, 6, none⟩ = some (.slice none 0 0) := by rw [cell_of_row w' P 6 _ _ _ hP]; rfl
            have zf : ∀ m, w'.frozen? ⟨P, m, none⟩ = false := fun m => frozen_of_row w' P m _ _ hP
            have hst := seven_stores w' P 34 _ _ _ _ _ _ _ (.int .i64 X.id) (.int .i64 X.rq.queue) (.int .i64 X.rq.fr) (.int .i64 X.rq.un) (.int .i64 X.rq.kind) (.slice X.rq.pa X.rq.pn X.rq.pc) (.slice X.ba X.bn X.bc) hP
            have hbe : Below w1.heap.size w1 (((((((w'.setCell ⟨P, 0, none⟩ (.int .i64 X.id)).setCell ⟨P, 1, none⟩ (.int .i64 X.rq.queue)).setCell ⟨P, 2, none⟩ (.int .i64 X.rq.fr)).setCell ⟨P, 3, none⟩ (.int .i64 X.rq.un)).setCell ⟨P, 4, none⟩ (.int .i64 X.rq.kind)).setCell ⟨P, 5, none⟩ (.slice X.rq.pa X.rq.pn X.rq.pc)).setCell ⟨P, 6, none⟩ (.slice X.ba X.bn X.bc)) := (((((((hb.setCell (p := ⟨P, 0, none⟩) hPw _).setCell (p := ⟨P, 1, none⟩) hPw _).setCell (p := ⟨P, 2, none⟩) hPw _).setCell (p := ⟨P, 3, none⟩) hPw _).setCell (p := ⟨P, 4, none⟩) hPw _).setCell (p := ⟨P, 5, none⟩) hPw _).setCell (p := ⟨P, 6, none⟩) hPw _)
            refine ⟨(((((((w'.setCell ⟨P, 0, none⟩ (.int .i64 X.id)).setCell ⟨P, 1, none⟩ (.int .i64 X.rq.queue)).setCell ⟨P, 2, none⟩ (.int .i64 X.rq.fr)).setCell ⟨P, 3, none⟩ (.int .i64 X.rq.un)).setCell ⟨P, 4, none⟩ (.int .i64 X.rq.kind)).setCell ⟨P, 5, none⟩ (.slice X.rq.pa X.rq.pn X.rq.pc)).setCell ⟨P, 6, none⟩ (.slice X.ba X.bn X.bc)), by go_simp, ?_⟩
            show _
            rw [lit_then [true, true, true, true, true, false, true, true, true, true, true, true, true, true, true, true, true, true, true, true, true, false, false, false, false, false, false, false, false, false, true, true, true, true, true, true, true, true, true, true, true, true, true, true, true, true, true, true, true, true, true, true, true, true, true, true, true, true, true, true, true, true, true, true, true, true] (by kernel_rfl) hs hl]
            obtain ⟨us, hus⟩ : ∃ us : Nat → Value, (fun d => T.getD d undef) = us := ⟨_, rfl⟩
            rw [hus]
            have f5 : us 5 = .pointer (some ⟨P, 0, none⟩) := by rw [← hus]; exact h1
            clear hus hl hs hd
            apply_assumption
            simp only [fillL]
            go_meet
            exact ⟨_, rfl, P, f5, hst.1, hbe⟩
          exact trivial
      case rest =>
        obtain ⟨w4, rfl, P, rfl, hP, hb⟩ := hcut
        have HP := hid hP
        have HB4 := hid (below_from HB1.out hb)
        have HY4 := hid (HY1.out.later hb)
        have HKC := hid (Cancel_ok w4 c n ta tn tc l _ bn bc b (HST.out.later HB4.out) X.id HPE.out j HIA.out)
        clear hb hP d0 d1 d2 d3
        obtain ⟨c0, c1, c2, c3⟩ := HY4.out.cells
        obtain ⟨z0, z1, z2, z3, z4, z5, z6⟩ := HP.out.cells
        go_wp2_with fail
        refine HKC.out.mono ?_
        rintro e w5 ⟨v, rfl, gg, kk, l4, aa, km, b4, rfl, hSt4, hbq4, hbb4, hb⟩
        obtain ⟨A, hA⟩ : ∃ A, w5.heap.size = A := ⟨_, rfl⟩
        obtain ⟨U, hU⟩ : ∃ U, U = w5.alloc (.cells #[.int .i64 c, .int .i64 n, .slice (some ⟨gg, 0, none⟩) tn kk, .slice aa (bn - 1) km] 25) := ⟨_, rfl⟩
        have hbU : Below w5.heap.size w5 U := by rw [hU]; exact (Below.refl _ _).alloc (Nat.le_refl _) _
        have HA : Hid (StBox U A (.int .i64 c) (.int .i64 n) (.slice (some ⟨gg, 0, none⟩) tn kk) (.slice aa (bn - 1) km)) := hid (by rw [hU, ← hA]; exact StBox.new w5 _ _ _ _)
        have HBU := hid (below_from (below_from HB4.out hb) hbU)
        have HPU := hid ((HP.out.later hb).later hbU)
        have HU := hid hU
        have HKS := Submit_any U c n _ tn kk l4 _ (bn - 1) km b4 (hSt4.later hbU) X.rq (RqIn.later HRQ.out HBU.out)
        obtain ⟨E, hE⟩ : ∃ E, subE c n l4 b4 X.rq = E := ⟨_, rfl⟩
        have hfs := HFS.out l4 b4 hbq4 hbb4
        rw [hE] at HKS hfs
        replace HKS := hid HKS
        have HF := hid hfs
        clear hb hU hbU hSt4 hbq4 hbb4 hE hfs c0 c1 c2 c3 z0 z1 z2 z3 z4 z5 z6
        obtain ⟨a0, a1, a2, a3⟩ := HA.out.cells
        obtain ⟨u0, u1, u2, u3, u4, u5, u6⟩ := HPU.out.cells
        rw [HU.out] at a0 a1 a2 a3 u0 u1 u2 u3 u4 u5 u6
        go_wp2_with fail
        rw [← HU.out]
        refine HKS.out.mono ?_
        rintro e w6 ⟨i1, i2, s1, n1, k1, s2, n2, k2, x, rfl, hb⟩
        obtain ⟨U2, hU2⟩ : ∃ U2, U2 = w6.alloc (.cells #[.int .i64 i1, .int .i64 i2, .slice s1 n1 k1, .slice s2 n2 k2] 25) := ⟨_, rfl⟩
        have hbU : Below U.heap.size U U2 := by rw [hU2]; exact hb.alloc hb.size _
        have HBU2 := hid (below_from HBU.out hbU)
        have HP2 := hid (HPU.out.later hbU)
        have HU2 := hid hU2
        clear hb hU2 hbU a0 a1 a2 a3 u0 u1 u2 u3 u4 u5 u6
        by_cases h0 : E = 0
        · have h0' : (E == 0) = true := by simp [h0]
          clear h0
          go_wp2_with fail
          rw [← HU2.out]
          refine (bookBegun_any U2).mono ?_
          rintro e w9 ⟨rfl, hb⟩
          have HB9 := hid (below_from HBU2.out hb)
          obtain ⟨u0, u1, u2, u3, u4, u5, u6⟩ := (HP2.out.later hb).cells
          clear hb
          go_wp2
          go_ret
          exact ⟨rfl, HB9.out⟩
        · have h0' : (E == 0) = false := by simp [h0]
          by_cases h9 : E = 9
          · have h9' : (E == 9) = true := by simp [h9]
            clear h0 h9
            go_wp2_with fail
            rw [← HU2.out]
            refine (bookBegun_any U2).mono ?_
            rintro e w9 ⟨rfl, hb⟩
            have HB9 := hid (below_from HBU2.out hb)
            obtain ⟨u0, u1, u2, u3, u4, u5, u6⟩ := (HP2.out.later hb).cells
            clear hb
            go_wp2
            go_ret
            exact ⟨rfl, HB9.out⟩
          · have h9' : (E == 9) = false := by simp [h9]
            by_cases h2 : E = 2
            · have h2' : (E == 2) = true := by simp [h2]
              clear h0 h9 h2
              go_wp2_with fail
              rw [← HU2.out]
              refine (bookBegun_any U2).mono ?_
              rintro e w9 ⟨rfl, hb⟩
              have HB9 := hid (below_from HBU2.out hb)
              obtain ⟨u0, u1, u2, u3, u4, u5, u6⟩ := (HP2.out.later hb).cells
              clear hb
              go_wp2
              go_ret
              exact ⟨rfl, HB9.out⟩
            · have h2' : (E == 2) = false := by simp [h2]
              have hk : X.rq.kind = 1 := Classical.byContradiction fun hk => by
                rcases HF.out hk with h | h | h
                · exact h0 h
                · exact h9 h
                · exact h2 h
              have hk' : (X.rq.kind == 1) = true := by simp [hk]
              clear h0 h9 h2 hk
              go_wp2_with fail
              rw [← HU2.out]
              refine (bookBegun_any U2).mono ?_
              rintro e w9 ⟨rfl, hb⟩
              have HB9 := hid (below_from HBU2.out hb)
              obtain ⟨u0, u1, u2, u3, u4, u5, u6⟩ := (HP2.out.later hb).cells
              clear hb
              go_wp2
              go_ret
              exact ⟨rfl, HB9.out⟩
  · obtain ⟨er, her⟩ : ∃ er, planE c n l b = er := ⟨_, rfl⟩
    rw [her] at K1 he
    have hne : (er != 0) = true := by simp [he]
    have HK1 := hid K1
    clear K1 he her
    go_enter Try.func3, Try.ntmps3
    go_wp2_with fail
    rw [← HW1.out]
    refine HK1.out.mono ?_
    rintro e w1 ⟨rfl, hb⟩
    have HB1 := hid (below_from HB0.out hb)
    clear hb c0 c1 c2 c3
    go_wp2_with fail
    refine (bookBegun_any w1).mono ?_
    rintro e w9 ⟨rfl, hb⟩
    have HB9 := hid (below_from HB1.out hb)
    clear hb
    go_wp2
    go_ret
    exact ⟨rfl, HB9.out⟩

set_option maxRecDepth 100000 in
theorem BookFree_lifted (os : Os) (started : os.Started) (H : Type) (enc : TypeId × Value → H) :
    ReturnsInHanded {} Try.checked os 3 .any (Rows.bookFreeSpec.pre6 enc Try.prog Try.f3 Rows.bookFreeRow.domain false) (Rows.bookFreeSpec.post enc Try.prog Try.f3 false true false false) := by
  refine returnsInHanded_of_change (C := Try.checked) own started (by kernel_rfl) Try.func3
    (ChangeSpec.witness6 (enc := enc) (C := Try.checked) false ⟨#[], #[.agg #[.int .i64 0, .int .i64 0, .slice none 0 0, .slice none 0 0], .int .i64 0], []⟩ 8 (by kernel_rfl) (by kernel_rfl) (by kernel_rfl) (by kernel_rfl)) ?_
  intro W base args ds gs before hval0 hW hcnd _
  have hval : ∀ (j : Nat) t v, Try.f3.params[j]? = some t → args[j]? = some v → Value.okWide Try.prog W .any base t v := hval0
  have hW' := hW
  obtain ⟨p, q, hA0, hV, rfl, hfz, hnd⟩ := hW
  have hA : DataW.TrodAll enc Try.prog W 0 (fun _ => true) true Try.f3.params.toList args.toList ds p := hA0
  rw [Try.params3] at hA hval
  obtain ⟨v0, vs0, d0, ds0, p0, q0, hargs, rfl, rfl, h0, r0⟩ := trodAll_cons hA
  obtain ⟨v1, vs1, d1, ds1, p1, q1, rfl, rfl, rfl, h1, r1⟩ := trodAll_cons r0
  obtain ⟨rfl, rfl, rfl⟩ := trodAll_nil r1
  obtain rfl : args = #[v0, v1] := by cases args; simp_all
  obtain ⟨rfl, rfl⟩ := trodVars_none hV
  have k0 := h0
  have lt0 : ∀ x ∈ p0, x.block < W.heap.size := by obtain ⟨m, hm⟩ := k0; exact DataW.trod_lt m _ _ _ hm
  obtain ⟨sc0, sn0, sta0, stn0, stc0, sl0, sba0, sbn0, sbc0, sb0, rfl, w0⟩ := st_arg (hval 0 25 v0 rfl rfl) h0
  obtain ⟨a1, rfl, rfl, rfl, w1⟩ := open_int Try.underlying3 (hval 1 3 v1 rfl rfl) h1
  have b1 := wf_range w1
  clear hA0 hval0
  refine (BookFree_walk W sc0 sn0 sta0 stn0 stc0 sl0 sba0 sbn0 sbc0 sb0 w0 a1 b1.1 b1.2).mono fun e W' ⟨he, bel⟩ => ?_
  subst he
  exact ⟨_, rfl, _, _, _, [], _, [], hW', trodAll_mk1 (shut_bool Try.underlying4 _), (trodAll_cons_mk (Below.trod laidOut (by kernel_rfl) (of_decide_eq_true (by kernel_rfl)) k0 bel lt0) (trodAll_cons_mk (shut_int Try.underlying3 w1) trodAll_mk0)), rfl, bel.frame _, fun h => by cases h⟩

theorem BookFree_holds : Rows.BookFreeSaid :=
  OpenClaim.holds_of_wide 3 Try.f3 rfl rfl rfl rfl rfl rfl rfl ⟨rfl, rfl, rfl, rfl, rfl⟩ rfl rfl rfl rfl rfl (by kernel_rfl) Try.func3 (by kernel_rfl)
    (of_decide_eq_true (by kernel_rfl)) (by unfold Func.isWrapper; first | (rw [if_pos (by decide +kernel)]; kernel_rfl) | (rw [if_neg (by decide +kernel)]; exact ⟨rfl, rfl⟩))
    (fun os started H enc _ => BookFree_lifted os started H enc)
#print axioms BookFree_holds
end Go.Proofs.Ytcgchicdmgllaae
