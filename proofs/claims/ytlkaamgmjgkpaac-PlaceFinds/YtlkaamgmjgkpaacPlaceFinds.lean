/- PlaceFinds: whatever room and request it is handed, the call returns true, and its arguments read afterwards as they read before. -/
import Derived.Test.YtlkaamgmjgkpaacFindF
import Derived.Test.YtlkaamgmjgkpaacPlaceI
import Derived.Test.YtlkaamgmjgkpaacFrameR
namespace Go.Proofs.Ytlkaamgmjgkpaac
open Go.ChangeShapes Go.WideShapes Go.ChangeAt Go.RowKit

set_option maxRecDepth 100000 in
set_option maxHeartbeats 2000000 in
theorem PlaceFinds_walk (w : World) (la : Option Addr) (ln lc : Nat) (f : RunL) (hf : RunsIn w la ln lc f) (r : Rq) (h : RqIn w r) :
    Calls Try.prog 5 #[.slice la ln lc, .agg #[.int .i64 r.queue, .int .i64 r.fr, .int .i64 r.un, .int .i64 r.kind, .slice r.pa r.pn r.pc]] w fun e w' => e = .returned (.bool true) ∧ Below w.heap.size w w' := by
  have B1 := hid ((Below.refl w.heap.size w).alloc (Nat.le_refl _) (.cells #[.int .i64 r.queue, .int .i64 r.fr, .int .i64 r.un, .int .i64 r.kind, .slice r.pa r.pn r.pc] 41))
  have KB := hid (box_cells w r)
  have HF := hid hf
  have HR := hid h
  have HK := hid (Find_any _ r (h.later B1.out) la ln lc f (hf.later B1.out))
  have KR := hid fun X (hX : Below w.heap.size w X) => FindPlace_any X r (h.later hX) la ln lc f (hf.later hX)
  clear h hf
  obtain ⟨E, hE⟩ : ∃ E, placeErr f r = E := ⟨_, rfl⟩
  obtain ⟨A, hA⟩ : ∃ A, (if placeErr f r = 0 then findA r f else ([], false)) = A := ⟨_, rfl⟩
  rw [hA, hE] at HK KR
  clear hA hE
  obtain ⟨x, y⟩ := A
  go_enter Try.func5, Try.ntmps5
  go_wp2_with fail
  refine HK.out.mono ?_
  rintro e w1 ⟨a1, n1, c1, rfl, hr, hb⟩
  have HB := hid (below_from B1.out hb)
  have HR1 := hid hr
  obtain ⟨d0, d1, d2, d3, d4⟩ := KB.out w1 hb
  clear hr hb
  go_wp2_with fail
  refine (KR.out w1 HB.out).mono ?_
  rintro e w2 ⟨a2, n2, c2, rfl, hr, hb⟩
  have HB2 := hid (below_from HB.out hb)
  have HR2 := hid hr
  have HR1' := hid (HR1.out.later hb)
  obtain rfl : n2 = n1 := hr.len.trans HR1.out.len.symm
  clear hr hb d0 d1 d2 d3 d4
  go_wp2_with fail
  refine (placeBegun_any w2).mono ?_
  rintro e w3 ⟨rfl, hb⟩
  have HB3 := hid (below_from HB2.out hb)
  have HS1 := hid (HR1'.out.later hb)
  have HS2 := hid (HR2.out.later hb)
  clear hb
  go_wp2_with fail
  refine (SameBites_same w3 a1 a2 _ c1 c2 x HS1.out HS2.out).mono ?_
  rintro e w4 ⟨rfl, hd⟩
  have HB4 := hid (below_from HB3.out (below_of_drawn hd))
  clear hd
  go_wp2
  go_ret
  exact ⟨rfl, HB4.out⟩

set_option maxRecDepth 100000 in
theorem PlaceFinds_lifted (os : Os) (started : os.Started) (H : Type) (enc : TypeId × Value → H) :
    ReturnsInHanded {} Try.checked os 5 .any (Rows.placeFindsSpec.pre6 enc Try.prog Try.f5 Rows.placeFindsRow.domain false) (Rows.placeFindsSpec.post enc Try.prog Try.f5 false true false false) := by
  refine returnsInHanded_of_change (C := Try.checked) own started (by kernel_rfl) Try.func5
    (ChangeSpec.witness6 (enc := enc) (C := Try.checked) false ⟨#[], #[.slice none 0 0, .agg #[.int .i64 0, .int .i64 0, .int .i64 0, .int .i64 0, .slice none 0 0]], []⟩ 8 (by kernel_rfl) (by kernel_rfl) (by kernel_rfl) (by kernel_rfl)) ?_
  intro W base args ds gs before hval0 hW hcnd _
  have hval : ∀ (j : Nat) t v, Try.f5.params[j]? = some t → args[j]? = some v → Value.okWide Try.prog W .any base t v := hval0
  have hW' := hW
  obtain ⟨p, q, hA0, hV, rfl, hfz, hnd⟩ := hW
  have hA : DataW.TrodAll enc Try.prog W 0 (fun _ => true) true Try.f5.params.toList args.toList ds p := hA0
  rw [Try.params5] at hA hval
  obtain ⟨v0, vs0, d0, ds0, p0, q0, hargs, rfl, rfl, h0, r0⟩ := trodAll_cons hA
  obtain ⟨v1, vs1, d1, ds1, p1, q1, rfl, rfl, rfl, h1, r1⟩ := trodAll_cons r0
  obtain ⟨rfl, rfl, rfl⟩ := trodAll_nil r1
  obtain rfl : args = #[v0, v1] := by cases args; simp_all
  obtain ⟨rfl, rfl⟩ := trodVars_none hV
  have k0 := h0
  have lt0 : ∀ x ∈ p0, x.block < W.heap.size := by obtain ⟨m, hm⟩ := k0; exact DataW.trod_lt m _ _ _ hm
  obtain ⟨a0, len0, cap0, rfl⟩ := okWide_slice Try.underlying22 (hval 0 22 v0 rfl rfl)
  obtain ⟨l0, w0⟩ : ∃ l, RunsIn W a0 len0 cap0 l := by
    obtain ⟨fuel, hf⟩ := h0
    exact runs_open (by simp [Value.cells]) hf
  have k1 := h1
  have lt1 : ∀ x ∈ p1, x.block < W.heap.size := by obtain ⟨m, hm⟩ := k1; exact DataW.trod_lt m _ _ _ hm
  obtain ⟨x1, rfl, w1⟩ := rq_arg (hval 1 41 v1 rfl rfl) h1
  clear hA0 hval0
  refine (PlaceFinds_walk W a0 len0 cap0 l0 w0 x1 w1).mono fun e W' ⟨he, bel⟩ => ?_
  subst he
  exact ⟨_, rfl, _, _, _, [], _, [], hW', trodAll_mk1 (shut_bool Try.underlying4 _), (trodAll_cons_mk (Below.trod laidOut (by kernel_rfl) (of_decide_eq_true (by kernel_rfl)) k0 bel lt0) (trodAll_cons_mk (Below.trod laidOut (by kernel_rfl) (of_decide_eq_true (by kernel_rfl)) k1 bel lt1) trodAll_mk0)), rfl, bel.frame _, fun h => by cases h⟩

theorem PlaceFinds_holds : Rows.PlaceFindsSaid :=
  OpenClaim.holds_of_wide 5 Try.f5 rfl rfl rfl rfl rfl rfl rfl ⟨rfl, rfl, rfl, rfl, rfl⟩ rfl rfl rfl rfl rfl (by kernel_rfl) Try.func5 (by kernel_rfl)
    (of_decide_eq_true (by kernel_rfl)) (by unfold Func.isWrapper; first | (rw [if_pos (by decide +kernel)]; kernel_rfl) | (rw [if_neg (by decide +kernel)]; exact ⟨rfl, rfl⟩))
    (fun os started H enc _ => PlaceFinds_lifted os started H enc)
#print axioms PlaceFinds_holds
end Go.Proofs.Ytlkaamgmjgkpaac
