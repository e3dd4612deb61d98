/- RunsBumps: whatever runs and numbers it is handed, the call returns true, and its arguments read afterwards as they read before. -/
import Derived.Test.YtdomonpjgldfgaaRunsH
import Derived.Test.YtdomonpjgldfgaaFrame
namespace Go.Proofs.Ytdomonpjgldfgaa
open Go.ChangeShapes Go.WideShapes Go.ChangeAt Go.RowKit

set_option maxHeartbeats 2000000 in
theorem RunsBumps_walk (w : World) (a : Option Addr) (n cap : Nat) (l : RunL) (lo hi x : Int) (h : RunsIn w a n cap l) :
    Calls Try.prog 5 #[.slice a n cap, .int .i64 lo, .int .i64 hi, .int .i64 x] w fun e w' => e = .returned (.bool true) ∧ Below w.heap.size w w' := by
  obtain ⟨v1, hv1⟩ : ∃ v, bumpR l lo hi x = v := ⟨_, rfl⟩
  obtain ⟨r1, e1⟩ := v1
  have V1 := hid hv1
  clear hv1
  go_enter Try.func5, Try.ntmps5
  go_wp2_with fail
  have K1 := Bump_any w a n cap l lo hi x h
  rw [V1.out] at K1
  refine K1.mono ?_
  clear K1
  rintro e w1 ⟨a1, n1, cap1, rfl, R1, B1⟩
  have B1 := hid B1
  have R1 := hid R1
  go_wp2_with fail
  have K1 := BumpOf_any w1 a n cap l lo hi x (h.later B1.out)
  rw [V1.out] at K1
  refine K1.mono ?_
  clear K1
  rintro e w2 ⟨a2, n2, cap2, rfl, R2, B2⟩
  obtain rfl : n1 = n2 := R1.out.len.trans R2.len.symm
  have R2 := hid R2
  have R1' := hid (R1.out.later B2)
  have B2' := hid (below_from B1.out B2)
  clear B2 R1 B1
  go_wp2_with fail
  refine (runsBegun_any w2).mono ?_
  rintro e w3 ⟨rfl, B3⟩
  have R1 := hid (R1'.out.later B3)
  have R2' := hid (R2.out.later B3)
  have B3' := hid (below_from B2'.out B3)
  clear B3 R1' R2 B2'
  go_wp2_with fail
  refine (SameRuns_same w3 a1 a2 n1 cap1 cap2 r1 R1.out R2'.out).mono ?_
  rintro e w4 ⟨rfl, B4⟩
  have B4' := hid (below_from B3'.out (below_of_drawn B4))
  clear B4 R1 R2' B3'
  go_wp2
  go_ret
  exact ⟨rfl, B4'.out⟩
set_option maxRecDepth 100000 in
theorem RunsBumps_lifted (os : Os) (started : os.Started) (H : Type) (enc : TypeId × Value → H) :
    ReturnsInHanded {} Try.checked os 5 .any (Rows.runsBumpsSpec.pre6 enc Try.prog Try.f5 Rows.runsBumpsRow.domain false) (Rows.runsBumpsSpec.post enc Try.prog Try.f5 false true false false) := by
  refine returnsInHanded_of_change (C := Try.checked) own started (by kernel_rfl) Try.func5
    (ChangeSpec.witness6 (enc := enc) (C := Try.checked) false ⟨#[], #[.slice none 0 0, .int .i64 0, .int .i64 0, .int .i64 0], []⟩ 8 (by kernel_rfl) (by kernel_rfl) (by kernel_rfl) (by kernel_rfl)) ?_
  intro W base args ds gs before hval0 hW hcnd _
  have hval : ∀ (j : Nat) t v, Try.f5.params[j]? = some t → args[j]? = some v → Value.okWide Try.prog W .any base t v := hval0
  have hW' := hW
  obtain ⟨p, q, hA0, hV, rfl, hfz, hnd⟩ := hW
  have hA : DataW.TrodAll enc Try.prog W 0 (fun _ => true) true Try.f5.params.toList args.toList ds p := hA0
  rw [Try.params5] at hA hval
  obtain ⟨v0, vs0, d0, ds0, p0, q0, hargs, rfl, rfl, h0, r0⟩ := trodAll_cons hA
  obtain ⟨v1, vs1, d1, ds1, p1, q1, rfl, rfl, rfl, h1, r1⟩ := trodAll_cons r0
  obtain ⟨v2, vs2, d2, ds2, p2, q2, rfl, rfl, rfl, h2, r2⟩ := trodAll_cons r1
  obtain ⟨v3, vs3, d3, ds3, p3, q3, rfl, rfl, rfl, h3, r3⟩ := trodAll_cons r2
  obtain ⟨rfl, rfl, rfl⟩ := trodAll_nil r3
  obtain rfl : args = #[v0, v1, v2, v3] := by cases args; simp_all
  obtain ⟨rfl, rfl⟩ := trodVars_none hV
  obtain ⟨a0, len0, cap0, rfl⟩ := okWide_slice Try.underlying22 (hval 0 22 v0 rfl rfl)
  have k0 := h0
  have lt0 : ∀ x ∈ p0, x.block < W.heap.size := by obtain ⟨m, hm⟩ := k0; exact DataW.trod_lt m _ _ _ hm
  obtain ⟨l0, w0⟩ : ∃ l, RunsIn W a0 len0 cap0 l := by
    obtain ⟨fuel, hf⟩ := h0
    exact runs_open (by simp [Value.cells]) hf
  obtain ⟨a1, rfl, rfl, rfl, w1⟩ := open_int Try.underlying3 (hval 1 3 v1 rfl rfl) h1
  obtain ⟨a2, rfl, rfl, rfl, w2⟩ := open_int Try.underlying3 (hval 2 3 v2 rfl rfl) h2
  obtain ⟨a3, rfl, rfl, rfl, w3⟩ := open_int Try.underlying3 (hval 3 3 v3 rfl rfl) h3
  clear hA0 hval0
  refine (RunsBumps_walk W a0 len0 cap0 l0 a1 a2 a3 w0).mono fun e W' ⟨he, bel⟩ => ?_
  subst he
  exact ⟨_, rfl, _, _, _, [], _, [], hW', trodAll_mk1 (shut_bool Try.underlying4 _), (trodAll_cons_mk (Below.trod laidOut (by kernel_rfl) (of_decide_eq_true (by kernel_rfl)) k0 bel lt0) (trodAll_cons_mk (shut_int Try.underlying3 w1) (trodAll_cons_mk (shut_int Try.underlying3 w2) (trodAll_cons_mk (shut_int Try.underlying3 w3) trodAll_mk0)))), rfl, bel.frame _, fun h => by cases h⟩

theorem RunsBumps_holds : Rows.RunsBumpsSaid :=
  OpenClaim.holds_of_wide 5 Try.f5 rfl rfl rfl rfl rfl rfl rfl ⟨rfl, rfl, rfl, rfl, rfl⟩ rfl rfl rfl rfl rfl (by kernel_rfl) Try.func5 (by kernel_rfl)
    (of_decide_eq_true (by kernel_rfl)) (by unfold Func.isWrapper; first | (rw [if_pos (by decide +kernel)]; kernel_rfl) | (rw [if_neg (by decide +kernel)]; exact ⟨rfl, rfl⟩))
    (fun os started H enc _ => RunsBumps_lifted os started H enc)
#print axioms RunsBumps_holds
end Go.Proofs.Ytdomonpjgldfgaa
