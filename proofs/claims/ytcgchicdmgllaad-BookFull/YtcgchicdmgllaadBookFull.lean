/- BookFull: whatever state, request and bites it is handed, the call returns true, and its arguments read afterwards as they read before. -/
import Derived.Test.YtcgchicdmgllaadBookE
import Derived.Test.YtcgchicdmgllaadBookF
import Derived.Test.YtcgchicdmgllaadFrameS
import Derived.Deep.DeepCutAuto
namespace Go.Proofs.Ytcgchicdmgllaad
open Go.ChangeShapes Go.WideShapes Go.ChangeAt Go.RowKit

set_option maxRecDepth 100000 in
set_option maxHeartbeats 4000000 in
theorem BookFull_walk (w : World) (c n : Int) (ta : Option Addr) (tn tc : Nat) (l : QL) (ba : Option Addr) (bn bc : Nat) (b : BL) (h : StIn w ta tn tc l ba bn bc b) (r : Rq) (hr : RqIn w r) (da : Option Addr) (dn dc : Nat) (bs : RunL) (hd : RunsIn w da dn dc bs) :
    Calls Try.prog 5 #[.agg #[.int .i64 c, .int .i64 n, .slice ta tn tc, .slice ba bn bc], .agg #[.int .i64 r.queue, .int .i64 r.fr, .int .i64 r.un, .int .i64 r.kind, .slice r.pa r.pn r.pc], .slice da dn dc] w fun e w' => e = .returned (.bool true) ∧ Below w.heap.size w w' := by
  obtain ⟨S, hS⟩ : ∃ S, w.heap.size = S := ⟨_, rfl⟩
  obtain ⟨W1, hW1⟩ : ∃ W1, W1 = (w.alloc (.cells #[.int .i64 c, .int .i64 n, .slice ta tn tc, .slice ba bn bc] 25)).alloc (.cells #[.int .i64 r.queue, .int .i64 r.fr, .int .i64 r.un, .int .i64 r.kind, .slice r.pa r.pn r.pc] 37) := ⟨_, rfl⟩
  obtain ⟨x1, x2, hb0, _⟩ := two_boxes w _ _ _ _ r hW1
  rw [hS] at x1 x2
  have KS := Submit_any W1 c n ta tn tc l ba bn bc b (h.later hb0) r (RqIn.later hr hb0)
  have HST := hid h
  have HRQ := hid hr
  have HBI := hid hd
  have HX1 := hid x1
  have HX2 := hid x2
  have HB0 := hid hb0
  have HW1 := hid hW1
  obtain ⟨c0, c1, c2, c3⟩ := x1.cells
  obtain ⟨d0, d1, d2, d3, d4⟩ := x2.cells
  clear hW1 x1 x2 hb0 h hr hd
  obtain ⟨E, hE⟩ : ∃ E, subE c n l b r = E := ⟨_, rfl⟩
  rw [hE] at KS
  have HK := hid KS
  have HE := hid hE
  clear KS hE
  go_enter Try.func5, Try.ntmps5
  go_wp2_with fail
  rw [← HW1.out]
  refine HK.out.mono ?_
  rintro e w1 ⟨i1, i2, s1, n1, k1, s2, n2, k2, x, rfl, hb⟩
  obtain ⟨U, hU⟩ : ∃ U, U = w1.alloc (.cells #[.int .i64 i1, .int .i64 i2, .slice s1 n1 k1, .slice s2 n2 k2] 25) := ⟨_, rfl⟩
  have hbU : Below W1.heap.size W1 U := by rw [hU]; exact hb.alloc hb.size _
  have HU := hid hU
  have HBU := hid (below_from HB0.out hbU)
  have Y1 := hid (HX1.out.later hbU)
  have Y2 := hid (HX2.out.later hbU)
  clear hb hU hbU c0 c1 c2 c3 d0 d1 d2 d3 d4
  obtain ⟨c0, c1, c2, c3⟩ := Y1.out.cells
  obtain ⟨d0, d1, d2, d3, d4⟩ := Y2.out.cells
  rw [HU.out] at c0 c1 c2 c3 d0 d1 d2 d3 d4
  by_cases h8 : E = 8
  · have h8' : (E != 8) = false := by simp [h8]
    have HE8 := hid h8
    clear h8
    by_cases hk : r.kind = 1
    · have hk' : (r.kind == 1) = true := by simp [hk]
      clear hk
      go_wp2_with fail
      rw [← HU.out]
      refine (bookBegun_any U).mono ?_
      rintro e w9 ⟨rfl, hb⟩
      have HB9 := hid (below_from HBU.out hb)
      clear hb
      go_wp2
      go_ret
      exact ⟨rfl, HB9.out⟩
    · have hk' : (r.kind == 1) = false := by simp [hk]
      have HKD := hid hk
      clear hk
      have KM := Meets_any U r (RqIn.later HRQ.out HBU.out) da dn dc bs (HBI.out.later HBU.out)
      cases hm : meets r bs with
      | false =>
        rw [hm] at KM
        have HKM := hid KM
        clear KM hm
        go_wp2_with fail
        rw [← HU.out]
        refine HKM.out.mono ?_
        rintro e w2 ⟨rfl, hb⟩
        have HB2 := hid (below_from HBU.out hb)
        clear hb c0 c1 c2 c3 d0 d1 d2 d3 d4
        go_wp2_with fail
        skip
        refine (bookBegun_any w2).mono ?_
        rintro e w9 ⟨rfl, hb⟩
        have HB9 := hid (below_from HB2.out hb)
        clear hb
        go_wp2
        go_ret
        exact ⟨rfl, HB9.out⟩
      | true =>
        rw [hm] at KM
        have HKM := hid KM
        obtain ⟨hC, hq, hh⟩ := full_no (HE.out.trans HE8.out) HKD.out hm
        have htn := HST.out.1.len
        have KO := hid fun X (hX : Below w.heap.size w X) => RoomOf_ok X ta tn tc l (HST.out.1.later hX) ba bn bc b (HST.out.2.later hX) r.queue (chkL_clean hC) hq.1 (by omega)
        have KH := hid fun X (hX : Below w.heap.size w X) la ln lc (hf : RunsIn X la ln lc (roomR l b r.queue)) => held_any X la ln lc (roomR l b r.queue) hf r (RqIn.later HRQ.out hX) da dn dc bs (HBI.out.later hX) hm
        rw [hh] at KH
        clear KM hm hC hq hh htn
        go_wp2_with fail
        rw [← HU.out]
        refine HKM.out.mono ?_
        rintro e w2 ⟨rfl, hb⟩
        have HB2 := hid (below_from HBU.out hb)
        have Z1 := hid (Y1.out.later hb)
        have Z2 := hid (Y2.out.later hb)
        clear hb c0 c1 c2 c3 d0 d1 d2 d3 d4
        obtain ⟨c0, c1, c2, c3⟩ := Z1.out.cells
        obtain ⟨d0, d1, d2, d3, d4⟩ := Z2.out.cells
        go_wp2_with fail
        refine (KO.out w2 HB2.out).mono ?_
        rintro e w3 ⟨fa, fm, fc, rfl, hrr, hb⟩
        have HB3 := hid (below_from HB2.out hb)
        have Q2 := hid (Z2.out.later hb)
        have HRR := hid hrr
        clear hb hrr c0 c1 c2 c3 d0 d1 d2 d3 d4
        go_wp2_with fail
        refine (bookBegun_any w3).mono ?_
        rintro e w4 ⟨rfl, hb⟩
        have HB4 := hid (below_from HB3.out hb)
        have Q3 := hid (Q2.out.later hb)
        have HR4 := hid (HRR.out.later hb)
        clear hb
        obtain ⟨d0, d1, d2, d3, d4⟩ := Q3.out.cells
        go_wp2_with fail
        refine (KH.out w4 HB4.out _ _ _ HR4.out).mono ?_
        rintro e w5 ⟨rfl, hb⟩
        have HB5 := hid (below_from HB4.out hb)
        clear hb
        go_wp2
        go_ret
        exact ⟨rfl, HB5.out⟩
  · have h8' : (E != 8) = true := by simp [h8]
    clear h8
    go_wp2_with fail
    rw [← HU.out]
    refine (bookBegun_any U).mono ?_
    rintro e w9 ⟨rfl, hb⟩
    have HB9 := hid (below_from HBU.out hb)
    clear hb
    go_wp2
    go_ret
    exact ⟨rfl, HB9.out⟩

set_option maxRecDepth 100000 in
theorem BookFull_lifted (os : Os) (started : os.Started) (H : Type) (enc : TypeId × Value → H) :
    ReturnsInHanded {} Try.checked os 5 .any (Rows.bookFullSpec.pre6 enc Try.prog Try.f5 Rows.bookFullRow.domain false) (Rows.bookFullSpec.post enc Try.prog Try.f5 false true false false) := by
  refine returnsInHanded_of_change (C := Try.checked) own started (by kernel_rfl) Try.func5
    (ChangeSpec.witness6 (enc := enc) (C := Try.checked) false ⟨#[], #[.agg #[.int .i64 0, .int .i64 0, .slice none 0 0, .slice none 0 0], .agg #[.int .i64 0, .int .i64 0, .int .i64 0, .int .i64 0, .slice none 0 0], .slice none 0 0], []⟩ 8 (by kernel_rfl) (by kernel_rfl) (by kernel_rfl) (by kernel_rfl)) ?_
  intro W base args ds gs before hval0 hW hcnd _
  have hval : ∀ (j : Nat) t v, Try.f5.params[j]? = some t → args[j]? = some v → Value.okWide Try.prog W .any base t v := hval0
  have hW' := hW
  obtain ⟨p, q, hA0, hV, rfl, hfz, hnd⟩ := hW
  have hA : DataW.TrodAll enc Try.prog W 0 (fun _ => true) true Try.f5.params.toList args.toList ds p := hA0
  rw [Try.params5] at hA hval
  obtain ⟨v0, vs0, d0, ds0, p0, q0, hargs, rfl, rfl, h0, r0⟩ := trodAll_cons hA
  obtain ⟨v1, vs1, d1, ds1, p1, q1, rfl, rfl, rfl, h1, r1⟩ := trodAll_cons r0
  obtain ⟨v2, vs2, d2, ds2, p2, q2, rfl, rfl, rfl, h2, r2⟩ := trodAll_cons r1
  obtain ⟨rfl, rfl, rfl⟩ := trodAll_nil r2
  obtain rfl : args = #[v0, v1, v2] := by cases args; simp_all
  obtain ⟨rfl, rfl⟩ := trodVars_none hV
  have k0 := h0
  have lt0 : ∀ x ∈ p0, x.block < W.heap.size := by obtain ⟨m, hm⟩ := k0; exact DataW.trod_lt m _ _ _ hm
  obtain ⟨sc0, sn0, sta0, stn0, stc0, sl0, sba0, sbn0, sbc0, sb0, rfl, w0⟩ := st_arg (hval 0 25 v0 rfl rfl) h0
  have k1 := h1
  have lt1 : ∀ x ∈ p1, x.block < W.heap.size := by obtain ⟨m, hm⟩ := k1; exact DataW.trod_lt m _ _ _ hm
  obtain ⟨x1, rfl, w1⟩ := rq_arg (hval 1 37 v1 rfl rfl) h1
  have k2 := h2
  have lt2 : ∀ x ∈ p2, x.block < W.heap.size := by obtain ⟨m, hm⟩ := k2; exact DataW.trod_lt m _ _ _ hm
  obtain ⟨a2, len2, cap2, rfl⟩ := okWide_slice Try.underlying38 (hval 2 38 v2 rfl rfl)
  obtain ⟨l2, w2⟩ : ∃ l, RunsIn W a2 len2 cap2 l := by
    obtain ⟨fuel, hf⟩ := h2
    exact bites_open (by simp [Value.cells]) hf
  clear hA0 hval0
  refine (BookFull_walk W sc0 sn0 sta0 stn0 stc0 sl0 sba0 sbn0 sbc0 sb0 w0 x1 w1 a2 len2 cap2 l2 w2).mono fun e W' ⟨he, bel⟩ => ?_
  subst he
  exact ⟨_, rfl, _, _, _, [], _, [], hW', trodAll_mk1 (shut_bool Try.underlying4 _), (trodAll_cons_mk (Below.trod laidOut (by kernel_rfl) (of_decide_eq_true (by kernel_rfl)) k0 bel lt0) (trodAll_cons_mk (Below.trod laidOut (by kernel_rfl) (of_decide_eq_true (by kernel_rfl)) k1 bel lt1) (trodAll_cons_mk (Below.trod laidOut (by kernel_rfl) (of_decide_eq_true (by kernel_rfl)) k2 bel lt2) trodAll_mk0))), rfl, bel.frame _, fun h => by cases h⟩

theorem BookFull_holds : Rows.BookFullSaid :=
  OpenClaim.holds_of_wide 5 Try.f5 rfl rfl rfl rfl rfl rfl rfl ⟨rfl, rfl, rfl, rfl, rfl⟩ rfl rfl rfl rfl rfl (by kernel_rfl) Try.func5 (by kernel_rfl)
    (of_decide_eq_true (by kernel_rfl)) (by unfold Func.isWrapper; first | (rw [if_pos (by decide +kernel)]; kernel_rfl) | (rw [if_neg (by decide +kernel)]; exact ⟨rfl, rfl⟩))
    (fun os started H enc _ => BookFull_lifted os started H enc)
#print axioms BookFull_holds
end Go.Proofs.Ytcgchicdmgllaad
