/- PlaceTrue: whatever room and request it is handed, the call returns true, and its arguments read afterwards as they read before. -/
import Derived.Test.YtlkaamgmjgkpaacPlaceI
import Derived.Test.YtlkaamgmjgkpaacPlaceO
import Derived.Test.YtlkaamgmjgkpaacFrameR
namespace Go.Proofs.Ytlkaamgmjgkpaac
open Go.ChangeShapes Go.WideShapes Go.ChangeAt Go.RowKit

set_option maxRecDepth 100000 in
set_option maxHeartbeats 2000000 in
theorem PlaceTrue_walk (w : World) (la : Option Addr) (ln lc : Nat) (f : RunL) (hf : RunsIn w la ln lc f) (r : Rq) (h : RqIn w r) :
    Calls Try.prog 6 #[.slice la ln lc, .agg #[.int .i64 r.queue, .int .i64 r.fr, .int .i64 r.un, .int .i64 r.kind, .slice r.pa r.pn r.pc]] w fun e w' => e = .returned (.bool true) ∧ Below w.heap.size w w' := by
  have B1 := hid ((Below.refl w.heap.size w).alloc (Nat.le_refl _) (.cells #[.int .i64 r.queue, .int .i64 r.fr, .int .i64 r.un, .int .i64 r.kind, .slice r.pa r.pn r.pc] 41))
  have KB := hid (box_cells w r)
  have HF := hid hf
  have HR := hid h
  have K := Find_any _ r (h.later B1.out) la ln lc f (hf.later B1.out)
  clear h hf
  by_cases he : placeErr f r = 0
  · rw [if_pos he, he] at K
    obtain ⟨A, hA⟩ : ∃ A, findA r f = A := ⟨_, rfl⟩
    rw [hA] at K
    obtain ⟨x, y⟩ := A
    have HK := hid K
    clear K
    cases y with
    | false =>
      clear he hA
      go_enter Try.func6, Try.ntmps6
      go_wp2_with fail
      refine HK.out.mono ?_
      rintro e w1 ⟨a1, n1, c1, rfl, hr, hb⟩
      have HB := hid (below_from B1.out hb)
      clear hr hb
      go_wp2_with fail
      refine (placeBegun_any w1).mono ?_
      rintro e w2 ⟨rfl, hb⟩
      have HB2 := hid (below_from HB.out hb)
      clear hb
      go_wp2
      go_ret
      exact ⟨rfl, HB2.out⟩
    | true =>
      obtain ⟨hm, hh⟩ := find_good he hA
      have HM := hid hm
      have HH := hid hh
      clear he hA hm hh
      go_enter Try.func6, Try.ntmps6
      go_wp2_with fail
      refine HK.out.mono ?_
      rintro e w1 ⟨a1, n1, c1, rfl, hr, hb⟩
      have HB := hid (below_from B1.out hb)
      have HRX := hid hr
      have HKB := hid hb
      clear hr hb
      go_wp2_with fail
      refine (placeBegun_any w1).mono ?_
      rintro e w2 ⟨rfl, hb⟩
      have HB2 := hid (below_from HB.out hb)
      have HRX2 := hid (HRX.out.later hb)
      have HKB2 := hid (below_from HKB.out hb)
      obtain ⟨d0, d1, d2, d3, d4⟩ := KB.out w2 HKB2.out
      clear hb HRX HKB HB
      go_wp2_with fail
      have K3 := Meets_any w2 r (HR.out.later HB2.out) a1 n1 c1 x HRX2.out
      rw [HM.out] at K3
      refine K3.mono ?_
      clear K3
      rintro e w3 ⟨rfl, hb⟩
      have HB3 := hid (below_from HB2.out hb)
      have HRX3 := hid (HRX2.out.later hb)
      have HKB3 := hid (below_from HKB2.out hb)
      clear d0 d1 d2 d3 d4
      obtain ⟨d0, d1, d2, d3, d4⟩ := KB.out w3 HKB3.out
      clear hb HRX2 HKB2 HB2
      go_wp2_with fail
      have K4 := held_any w3 la ln lc f (HF.out.later HB3.out) r (HR.out.later HB3.out) a1 n1 c1 x HRX3.out HM.out
      rw [HH.out] at K4
      refine K4.mono ?_
      clear K4
      rintro e w4 ⟨rfl, hb⟩
      have HB4 := hid (below_from HB3.out hb)
      clear hb d0 d1 d2 d3 d4
      go_wp2
      go_ret
      exact ⟨rfl, HB4.out⟩
  · rw [if_neg he] at K
    obtain ⟨er, her⟩ : ∃ er, placeErr f r = er := ⟨_, rfl⟩
    rw [her] at K he
    have hne : (er != 0) = true := by simp [he]
    have hne2 : (er == 0) = false := by simp [he]
    have HK := hid K
    clear K he her
    go_enter Try.func6, Try.ntmps6
    go_wp2_with fail
    refine HK.out.mono ?_
    rintro e w1 ⟨a1, n1, c1, rfl, hr, hb⟩
    have HB := hid (below_from B1.out hb)
    clear hr hb
    go_wp2_with fail
    refine (placeBegun_any w1).mono ?_
    rintro e w2 ⟨rfl, hb⟩
    have HB2 := hid (below_from HB.out hb)
    clear hb
    go_wp2
    go_ret
    exact ⟨rfl, HB2.out⟩

set_option maxRecDepth 100000 in
theorem PlaceTrue_lifted (os : Os) (started : os.Started) (H : Type) (enc : TypeId × Value → H) :
    ReturnsInHanded {} Try.checked os 6 .any (Rows.placeTrueSpec.pre6 enc Try.prog Try.f6 Rows.placeTrueRow.domain false) (Rows.placeTrueSpec.post enc Try.prog Try.f6 false true false false) := by
  refine returnsInHanded_of_change (C := Try.checked) own started (by kernel_rfl) Try.func6
    (ChangeSpec.witness6 (enc := enc) (C := Try.checked) false ⟨#[], #[.slice none 0 0, .agg #[.int .i64 0, .int .i64 0, .int .i64 0, .int .i64 0, .slice none 0 0]], []⟩ 8 (by kernel_rfl) (by kernel_rfl) (by kernel_rfl) (by kernel_rfl)) ?_
  intro W base args ds gs before hval0 hW hcnd _
  have hval : ∀ (j : Nat) t v, Try.f6.params[j]? = some t → args[j]? = some v → Value.okWide Try.prog W .any base t v := hval0
  have hW' := hW
  obtain ⟨p, q, hA0, hV, rfl, hfz, hnd⟩ := hW
  have hA : DataW.TrodAll enc Try.prog W 0 (fun _ => true) true Try.f6.params.toList args.toList ds p := hA0
  rw [Try.params6] at hA hval
  obtain ⟨v0, vs0, d0, ds0, p0, q0, hargs, rfl, rfl, h0, r0⟩ := trodAll_cons hA
  obtain ⟨v1, vs1, d1, ds1, p1, q1, rfl, rfl, rfl, h1, r1⟩ := trodAll_cons r0
  obtain ⟨rfl, rfl, rfl⟩ := trodAll_nil r1
  obtain rfl : args = #[v0, v1] := by cases args; simp_all
  obtain ⟨rfl, rfl⟩ := trodVars_none hV
  have k0 := h0
  have lt0 : ∀ x ∈ p0, x.block < W.heap.size := by obtain ⟨m, hm⟩ := k0; exact DataW.trod_lt m _ _ _ hm
  obtain ⟨a0, len0, cap0, rfl⟩ := okWide_slice Try.underlying22 (hval 0 22 v0 rfl rfl)
  obtain ⟨l0, w0⟩ : ∃ l, RunsIn W a0 len0 cap0 l := by
    obtain ⟨fuel, hf⟩ := h0
    exact runs_open (by simp [Value.cells]) hf
  have k1 := h1
  have lt1 : ∀ x ∈ p1, x.block < W.heap.size := by obtain ⟨m, hm⟩ := k1; exact DataW.trod_lt m _ _ _ hm
  obtain ⟨x1, rfl, w1⟩ := rq_arg (hval 1 41 v1 rfl rfl) h1
  clear hA0 hval0
  refine (PlaceTrue_walk W a0 len0 cap0 l0 w0 x1 w1).mono fun e W' ⟨he, bel⟩ => ?_
  subst he
  exact ⟨_, rfl, _, _, _, [], _, [], hW', trodAll_mk1 (shut_bool Try.underlying4 _), (trodAll_cons_mk (Below.trod laidOut (by kernel_rfl) (of_decide_eq_true (by kernel_rfl)) k0 bel lt0) (trodAll_cons_mk (Below.trod laidOut (by kernel_rfl) (of_decide_eq_true (by kernel_rfl)) k1 bel lt1) trodAll_mk0)), rfl, bel.frame _, fun h => by cases h⟩

theorem PlaceTrue_holds : Rows.PlaceTrueSaid :=
  OpenClaim.holds_of_wide 6 Try.f6 rfl rfl rfl rfl rfl rfl rfl ⟨rfl, rfl, rfl, rfl, rfl⟩ rfl rfl rfl rfl rfl (by kernel_rfl) Try.func6 (by kernel_rfl)
    (of_decide_eq_true (by kernel_rfl)) (by unfold Func.isWrapper; first | (rw [if_pos (by decide +kernel)]; kernel_rfl) | (rw [if_neg (by decide +kernel)]; exact ⟨rfl, rfl⟩))
    (fun os started H enc _ => PlaceTrue_lifted os started H enc)
#print axioms PlaceTrue_holds
end Go.Proofs.Ytlkaamgmjgkpaac
