/- Contracts of a seeker's row and tight. -/
import Derived.Test.YtcgchicdmgllaadPlaceC
import Derived.Test.YtcgchicdmgllaadReqH
namespace Go.Proofs.Ytcgchicdmgllaad
open Go.RowKit

set_option maxRecDepth 100000 in
set_option maxHeartbeats 2000000 in
theorem row_any (w : World) (r : Rq) (h : RqIn w r) (hc0 : chkR false r = 0) (la : Option Addr) (ln lc : Nat) (f : RunL) (hf : RunsIn w la ln lc f) (t : Int) (ht0 : 0 ≤ t) (ht1 : t ≤ 48) :
    Calls Try.prog 105 #[.agg #[.int .i64 r.queue, .int .i64 r.fr, .int .i64 r.un, .int .i64 r.kind, .slice r.pa r.pn r.pc, .slice la ln lc], .int .i64 t] w fun e w' => GivesB w w' e (bitesOf (rowSt r f t r.ps.length)) := by
  obtain ⟨A, hA⟩ : ∃ A, bitesOf (rowSt r f t r.ps.length) = A := ⟨_, rfl⟩
  rw [hA]
  have B1 := hid ((Below.refl w.heap.size w).alloc (Nat.le_refl _) (.cells #[.int .i64 r.queue, .int .i64 r.fr, .int .i64 r.un, .int .i64 r.kind, .slice r.pa r.pn r.pc, .slice la ln lc] 131))
  have KC := hid (sk_cells w r la ln lc)
  have hcb := h.capb
  have hle := h.le
  have HPN := hid h.len
  have hpp : 0 < r.pn := by have := of_decide_eq_true (chkR_zero.1 hc0).2.1; have := h.len; omega
  have hp3 : r.pn ≤ 3 := by have := of_decide_eq_true (chkR_zero.1 hc0).2.1; have := h.len; omega
  obtain ⟨pb, po, hpa, hpc⟩ := h.cells hpp
  have HPC := hid hpc
  have HPS := hid fun k (hk : k < r.pn) => piece_at hc0 (k := k) (by have := h.len; omega)
  have HSP := hid (spn_at hc0)
  have KF := hid fun w1 (hb : Below w.heap.size w w1) i (hi : i < r.pn) fm => sfirst_any w1 r (h.later hb) la ln lc f (hf.later hb) i hi fm
  clear hpc h hf hc0
  rw [hpa] at KC KF B1
  rw [hpa]
  obtain ⟨i0, hi0, hz0, hz1, hz2⟩ := info_parts Try.infoBite
  rw [← HPN.out] at hA
  have HA := hid hA
  clear hA
  go_enter Try.func105, Try.ntmps105
  go_wp2_with fail
  obtain ⟨W0, hW0⟩ : ∃ W0, W0 = w.alloc (.cells #[.int .i64 r.queue, .int .i64 r.fr, .int .i64 r.un, .int .i64 r.kind, .slice (some ⟨pb, po, none⟩) r.pn r.pc, .slice la ln lc] 131) := ⟨_, rfl⟩
  have hsz0 : w.heap.size + 1 ≤ W0.heap.size := by rw [hW0]; simp
  rw [← hW0] at KC B1
  rw [← hW0]
  clear hW0
  have cc := KC.out W0 (Below.refl _ _)
  obtain ⟨c0, c1, c2, c3, c4, c5⟩ := cc
  go_wp2_with fail
  go_loopw [1, 6, 15] (fun sf v st wr => ∃ (k : Nat) (fm : Int) (bs : RunL), st = .int .i64 k ∧ k ≤ r.pn ∧ sf = .int .i64 fm ∧ 0 ≤ fm ∧ fm ≤ 48 + 24 * k ∧ rowSt r f t k = some (fm, bs) ∧ OwnBites wr W0.heap.size v bs ∧ Below W0.heap.size W0 wr) (fun _ _ st _ => r.pn - (intOf st).toNat)
  case atStart => exact ⟨0, t, [], rfl, by omega, rfl, ht0, by omega, rfl, World.ownsRow_nil _ _ _ _, Below.refl _ _⟩
  case round =>
    clear c0 c1 c2 c3 c4 c5
    obtain ⟨k, fm, bs, rfl, hk, rfl, hf0, hf1, hst, hown, hbel⟩ := hrel
    have HST := hid hst
    have HO := hid hown
    have HB := hid hbel
    have hbl : bs.length = k := row_len hst
    have HBL := hid hbl
    have hszr : W0.heap.size ≤ wr.heap.size := hbel.size
    have hlw : w.heap.size < wr.heap.size := by omega
    have hpbl : pb < wr.heap.size := Nat.lt_of_lt_of_le (block_lt_of_cell (HPC.out 0 hpp).1) (by omega)
    clear hst hown hbel hbl
    obtain ⟨c0, c1, c2, c3, c4, c5⟩ := KC.out wr HB.out
    by_cases hlt : k < r.pn
    · have hlt' : (k : Int) < r.pn := by omega
      have d0 := cell_later (below_from B1.out HB.out) (HPC.out k hlt).1
      have d1 := cell_later (below_from B1.out HB.out) (HPC.out k hlt).2
      have hps := HPS.out k hlt
      obtain ⟨L, hL⟩ : ∃ L, rAt r.ps k = L := ⟨_, rfl⟩
      obtain ⟨M, hM⟩ : ∃ M, rN r.ps k = M := ⟨_, rfl⟩
      have HX : Hid (fst3 r f fm k = firstR f fm r.un L M) := by show fst3 r f fm k = firstR f fm r.un L M; rw [← hL, ← hM]; rfl
      have hbd := fst3_bd r f fm k
      obtain ⟨X, hX⟩ : ∃ X, firstR f fm r.un L M = X := ⟨_, rfl⟩
      obtain ⟨W2, hW2⟩ : ∃ W2, W2 = wr.alloc (.cells #[.int .i64 L, .int .i64 M] 90) := ⟨_, rfl⟩
      have BW2 : Below wr.heap.size wr W2 := by rw [hW2]; exact (Below.refl _ _).alloc (Nat.le_refl _) _
      have K := KF.out W2 (below_from B1.out (below_from HB.out BW2)) k hlt fm
      rw [hL] at d0 hps K
      rw [hM] at d1 hps K
      rw [hX] at K HX
      rw [HX.out] at hbd
      have HL := hid hL
      have e0 : W2.cell? ⟨wr.heap.size, 0, none⟩ = some (.int .i64 L) := by rw [hW2]; go_simp
      have HE0 := hid e0
      have HW2 := hid hW2
      clear hX hL hM e0 hW2
      obtain ⟨x, y, z⟩ := X
      simp only at K hbd
      have HK := hid K
      have HBW2 := hid BW2
      clear K BW2
      go_wp2_with fail
      rw [← HW2.out]
      refine HK.out.mono ?_
      rintro e w2 ⟨rfl, hb⟩
      have HB2 := hid (below_from (below_from HB.out HBW2.out) hb)
      have e0 := cell_later hb HE0.out
      have HE := hid e0
      have HO2 := hid (HO.out.keep (below_from HBW2.out hb))
      have hsz2 : W0.heap.size ≤ w2.heap.size := HB2.out.size
      have hblk : wr.heap.size < w2.heap.size := block_lt_of_cell e0
      clear hb c0 c1 c2 c3 c4 c5 d0 d1 HW2 HK HBW2 HE0 e0
      have HNO := hid (row_none (r := r) (f := f) (t := t))
      cases y with
      | false =>
        have HS1 : Hid (rowSt r f t (k + 1) = none) := by show rowSt r f t (k + 1) = none; rw [rowSt, HST.out]; simp only [HX.out]; rfl
        have HAA : Hid (([], false) = A) := by show ([], false) = A; rw [← HA.out, none_on HNO.out HS1.out (by omega)]; rfl
        go_wp2
        go_ret2
        rw [← HAA.out]
        exact givesB_no (below_from B1.out HB2.out)
      | true =>
      by_cases hxf : x = fm
      · have hxb : (x != fm) = false := by simp [hxf]
        have HS1 : Hid (rowSt r f t (k + 1) = some (fm + L, bs ++ [((k : Int), fm)])) := by show rowSt r f t (k + 1) = _; rw [rowSt, HST.out]; simp only [HX.out, HL.out, hxf]; rfl
        clear hxf
        have tok : True := trivial
        go_wp2_with (at_builtin; have _t := tok; refine wpList_append_own _ rfl _ _ 38 rfl W0.heap.size 83 i0 (.agg #[.int .i64 0, .int .i64 0]) 2 16 Try.underlying38 hi0 hz0 hz1 hz2 rfl (by decide) _ _ _ rfl (HO2.out.alloc _) ⟨w2.heap.size, 0, none⟩ 1 1 [.int .i64 k, .int .i64 fm] rfl rfl ?c1 ?c2 ?c3 ?c4 ?c5 ?_; clear tok)
        case c1 => exact two_new _ _ _ _
        case c2 => exact two_one _ _
        case c3 => have := HBL.out; simp only [maxLen]; omega
        case c4 => have := HBL.out; omega
        case c5 => simp; omega
        intro v' w3 hown' hgrow _
        have R := hid (bites_more HB2.out hsz2 HO2.out hown' hgrow)
        have e0 : w3.cell? ⟨wr.heap.size, 0, none⟩ = some (.int .i64 L) := by
          refine (World.grownBy.cell hgrow (v := .int .i64 L) (cell_later ((Below.refl _ _).alloc (Nat.le_refl _) _) HE.out) ?_)
          intro hh
          exact absurd (HO.out.lt _ hh.symm).2 (by simp)
        clear hown' hgrow
        go_wp2
        go_roundw
        case rel => exact ⟨k + 1, fm + L, bs ++ [((k : Int), fm)], by go_num, by omega, rfl, by omega, by omega, HS1.out, R.out.1, R.out.2.1⟩
        case measure => simp [intOf]; omega
      · have hxb : (x != fm) = true := by simp [hxf]
        have HS1 : Hid (rowSt r f t (k + 1) = none) := by show rowSt r f t (k + 1) = none; rw [rowSt, HST.out]; simp only [HX.out, hxf, and_false, if_false]
        have HAA : Hid (([], false) = A) := by show ([], false) = A; rw [← HA.out, none_on HNO.out HS1.out (by omega)]; rfl
        clear hxf
        go_wp2
        go_ret2
        rw [← HAA.out]
        exact givesB_no (below_from B1.out HB2.out)
    · obtain rfl : k = r.pn := by omega
      have HAA : Hid ((bs, true) = A) := by show (bs, true) = A; rw [← HA.out, HST.out]; rfl
      obtain ⟨a', cap', rfl, hR⟩ := OwnBites.parts HO.out (by have := HBL.out; omega)
      go_wp2
      go_ret2
      rw [← HAA.out]
      exact ⟨_, _, _, rfl, hR, below_from B1.out HB.out⟩

set_option maxHeartbeats 1000000 in
theorem tight_any (w : World) (r : Rq) (h : RqIn w r) (hc0 : chkR false r = 0) (la : Option Addr) (ln lc : Nat) (f : RunL) (hf : RunsIn w la ln lc f) :
    Calls Try.prog 102 #[.agg #[.int .i64 r.queue, .int .i64 r.fr, .int .i64 r.un, .int .i64 r.kind, .slice r.pa r.pn r.pc, .slice la ln lc]] w fun e w' => GivesB w w' e (tightA r f) := by
  obtain ⟨A, hA⟩ : ∃ A, tightA r f = A := ⟨_, rfl⟩
  rw [hA]
  have KR := hid fun w1 (hb : Below w.heap.size w w1) t ht0 ht1 => row_any w1 r (h.later hb) hc0 la ln lc f (hf.later hb) t ht0 ht1
  have B1 := hid ((Below.refl w.heap.size w).alloc (Nat.le_refl _) (.cells #[.int .i64 r.queue, .int .i64 r.fr, .int .i64 r.un, .int .i64 r.kind, .slice r.pa r.pn r.pc, .slice la ln lc] 131))
  have KC := hid (sk_cells w r la ln lc)
  have hcb := h.capb
  have hle := h.le
  have HPN := hid h.len
  have hpp : 0 < r.pn := by have := of_decide_eq_true (chkR_zero.1 hc0).2.1; have := h.len; omega
  have hp3 : r.pn ≤ 3 := by have := of_decide_eq_true (chkR_zero.1 hc0).2.1; have := h.len; omega
  obtain ⟨pb, po, hpa, hpc⟩ := h.cells hpp
  have HPC := hid hpc
  have HPS := hid fun k (hk : k < r.pn) => piece_at hc0 (k := k) (by have := h.len; omega)
  have HSP := hid (spn_at hc0)
  have KF := hid fun w1 (hb : Below w.heap.size w w1) i (hi : i < r.pn) fm => sfirst_any w1 r (h.later hb) la ln lc f (hf.later hb) i hi fm
  clear hpc h hf hc0
  rw [hpa] at KC KF B1 KR
  rw [hpa]
  have HA := hid hA
  clear hA KF HPC HPS
  obtain ⟨F, hF⟩ : ∃ F : Nat, r.fr = F := ⟨r.fr.toNat, by have := HSP.out; omega⟩
  obtain ⟨U, hU⟩ : ∃ U : Nat, r.un = U := ⟨r.un.toNat, by have := HSP.out; omega⟩
  have HF := hid hF
  have HU := hid hU
  have HFU : Hid (F < U ∧ U ≤ 48) := by have := HSP.out; exact ⟨by omega, by omega⟩
  have HT : Hid (tightA r f = match findFrom (fun t => (rowSt r f t r.ps.length).isSome) F (U - F) with | some t => bitesOf (rowSt r f t r.ps.length) | none => ([], false)) := by
    show tightA r f = _
    rw [tightA, hF, hU, Int.toNat_natCast, Int.toNat_natCast]
    rfl
  clear hF hU
  go_enter Try.func102, Try.ntmps102
  go_wp2_with fail
  obtain ⟨W0, hW0⟩ : ∃ W0, W0 = w.alloc (.cells #[.int .i64 r.queue, .int .i64 r.fr, .int .i64 r.un, .int .i64 r.kind, .slice (some ⟨pb, po, none⟩) r.pn r.pc, .slice la ln lc] 131) := ⟨_, rfl⟩
  have hsz0 : w.heap.size + 1 ≤ W0.heap.size := by rw [hW0]; simp
  rw [← hW0] at KC B1
  rw [← hW0]
  clear hW0
  have cc := KC.out W0 (Below.refl _ _)
  obtain ⟨c0, c1, c2, c3, c4, c5⟩ := cc
  go_wp2_with fail
  go_loopw [4] (fun st wr => ∃ k : Nat, st = .int .i64 k ∧ F ≤ k ∧ k ≤ U ∧ findFrom (fun t => (rowSt r f t r.ps.length).isSome) F (U - F) = findFrom (fun t => (rowSt r f t r.ps.length).isSome) k (U - k) ∧ Below W0.heap.size W0 wr) (fun st _ => U - (intOf st).toNat)
  case atStart => exact ⟨F, by rw [HF.out], Nat.le_refl _, by have := HFU.out; omega, rfl, Below.refl _ _⟩
  case round =>
    clear c0 c1 c2 c3 c4 c5
    obtain ⟨k, rfl, hk1, hk2, hfd, hbel⟩ := hrel
    have HFD := hid hfd
    have HB := hid hbel
    clear hfd hbel
    obtain ⟨c0, c1, c2, c3, c4, c5⟩ := KC.out wr HB.out
    by_cases hlt : k < U
    · have hlt' : (k : Int) < r.un := by have := HU.out; omega
      have hk48 : (k : Int) ≤ 48 := by have := HFU.out; omega
      have K := KR.out wr (below_from B1.out HB.out) k (by omega) hk48
      cases hro : rowSt r f k r.ps.length with
      | none =>
        rw [hro] at K
        have HK := hid K
        clear K
        go_wp2_with fail
        refine HK.out.mono ?_
        rintro e w2 ⟨a', n', cap', rfl, hR, hb⟩
        have HB2 := hid (below_from HB.out hb)
        clear hb c0 c1 c2 c3 c4 c5 hR
        have hno : (bitesOf (none : Option (Int × RunL))).2 = false := rfl
        rw [hno]
        go_wp2
        go_roundw
        case rel => exact ⟨k + 1, by go_num, by omega, by omega, by rw [HFD.out, findFrom_miss (by omega) (by show (rowSt r f k r.ps.length).isSome = false; rw [hro]; rfl)]; rfl, HB2.out⟩
        case measure => simp [intOf]; omega
      | some X =>
        have HAA : Hid (bitesOf (some X) = A) := by
          show bitesOf (some X) = A
          rw [← HA.out, HT.out, HFD.out, findFrom_hit (by omega) (by show (rowSt r f k r.ps.length).isSome = true; rw [hro]; rfl)]
          simp only [hro]
        rw [hro] at K
        have HK := hid K
        clear K
        go_wp2_with fail
        refine HK.out.mono ?_
        rintro e w2 ⟨a', n', cap', rfl, hR, hb⟩
        have HB2 := hid (below_from HB.out hb)
        have HRR := hid hR
        clear hb c0 c1 c2 c3 c4 c5 hR
        have hyes : (bitesOf (some X)).2 = true := rfl
        rw [hyes]
        go_wp2
        go_ret2
        rw [← HAA.out]
        exact ⟨_, _, _, rfl, HRR.out, below_from B1.out HB2.out⟩
    · obtain rfl : k = U := by omega
      have hlt' : ¬ (k : Int) < r.un := by have := HU.out; omega
      have HAA : Hid (([], false) = A) := by
        show ([], false) = A
        rw [← HA.out, HT.out, HFD.out, Nat.sub_self]; rfl
      go_wp2
      go_ret2
      rw [← HAA.out]
      exact givesB_no (below_from B1.out HB.out)
end Go.Proofs.Ytcgchicdmgllaad
