/- RunsTwo: whatever runs it is handed, the call returns true, and its arguments read afterwards as they read before. -/
import Derived.Test.YtdomonpjgldfgaaRunsH
import Derived.Test.YtdomonpjgldfgaaFrame
namespace Go.Proofs.Ytdomonpjgldfgaa
open Go.ChangeShapes Go.WideShapes Go.ChangeAt Go.RowKit

set_option maxHeartbeats 2000000 in
theorem RunsTwo_walk (w : World) (a : Option Addr) (n cap : Nat) (l : RunL) (a' : Option Addr) (n' cap' : Nat) (l' : RunL) (h : RunsIn w a n cap l) (h' : RunsIn w a' n' cap' l') :
    Calls Try.prog 4 #[.slice a n cap, .slice a' n' cap'] w fun e w' => e = .returned (.bool true) ∧ Below w.heap.size w w' := by
  obtain ⟨⟨r1, e1⟩, hv1⟩ : ∃ v, joinR (fun x y => x + y) l l' = v := ⟨_, rfl⟩
  obtain ⟨⟨r2, e2⟩, hv2⟩ : ∃ v, joinR (fun x y => x - y) l l' = v := ⟨_, rfl⟩
  obtain ⟨⟨r3, e3⟩, hv3⟩ : ∃ v, joinR (fun x y => min x y) l l' = v := ⟨_, rfl⟩
  have V1 := hid hv1
  have V2 := hid hv2
  have V3 := hid hv3
  clear hv1 hv2 hv3
  go_enter Try.func4, Try.ntmps4
  go_wp2_with fail
  have K1 := Plus_any w a a' n n' cap cap' l l' h h'
  rw [V1.out] at K1
  refine K1.mono ?_
  clear K1
  rintro e w1 ⟨a1, n1, cap1, rfl, R, B⟩
  have R1_1 := hid R
  have B1 := hid (B)
  clear R B
  go_wp2_with fail
  have K1 := Minus_any w1 a a' n n' cap cap' l l' (h.later B1.out) (h'.later B1.out)
  rw [V2.out] at K1
  refine K1.mono ?_
  clear K1
  rintro e w2 ⟨a2, n2, cap2, rfl, R, B⟩
  have R1_2 := hid (R1_1.out.later B)
  have R2_2 := hid R
  have B2 := hid (below_from B1.out B)
  clear R B R1_1 B1
  go_wp2_with fail
  have K1 := Lesser_any w2 a a' n n' cap cap' l l' (h.later B2.out) (h'.later B2.out)
  rw [V3.out] at K1
  refine K1.mono ?_
  clear K1
  rintro e w3 ⟨a3, n3, cap3, rfl, R, B⟩
  have R1_3 := hid (R1_2.out.later B)
  have R2_3 := hid (R2_2.out.later B)
  have R3_3 := hid R
  have B3 := hid (below_from B2.out B)
  clear R B R1_2 R2_2 B2
  go_wp2_with fail
  have K1 := PlusOf_any w3 a a' n n' cap cap' l l' (h.later B3.out) (h'.later B3.out)
  rw [V1.out] at K1
  refine K1.mono ?_
  clear K1
  rintro e w4 ⟨a4, n4, cap4, rfl, R, B⟩
  have R1_4 := hid (R1_3.out.later B)
  have R2_4 := hid (R2_3.out.later B)
  have R3_4 := hid (R3_3.out.later B)
  have R4_4 := hid R
  have B4 := hid (below_from B3.out B)
  obtain rfl : n1 = n4 := R1_3.out.len.trans R.len.symm
  clear R B R1_3 R2_3 R3_3 B3
  go_wp2_with fail
  have K1 := MinusOf_any w4 a a' n n' cap cap' l l' (h.later B4.out) (h'.later B4.out)
  rw [V2.out] at K1
  refine K1.mono ?_
  clear K1
  rintro e w5 ⟨a5, n5, cap5, rfl, R, B⟩
  have R1_5 := hid (R1_4.out.later B)
  have R2_5 := hid (R2_4.out.later B)
  have R3_5 := hid (R3_4.out.later B)
  have R4_5 := hid (R4_4.out.later B)
  have R5_5 := hid R
  have B5 := hid (below_from B4.out B)
  obtain rfl : n2 = n5 := R2_4.out.len.trans R.len.symm
  clear R B R1_4 R2_4 R3_4 R4_4 B4
  go_wp2_with fail
  have K1 := LesserOf_any w5 a a' n n' cap cap' l l' (h.later B5.out) (h'.later B5.out)
  rw [V3.out] at K1
  refine K1.mono ?_
  clear K1
  rintro e w6 ⟨a6, n6, cap6, rfl, R, B⟩
  have R1_6 := hid (R1_5.out.later B)
  have R2_6 := hid (R2_5.out.later B)
  have R3_6 := hid (R3_5.out.later B)
  have R4_6 := hid (R4_5.out.later B)
  have R5_6 := hid (R5_5.out.later B)
  have R6_6 := hid R
  have B6 := hid (below_from B5.out B)
  obtain rfl : n3 = n6 := R3_5.out.len.trans R.len.symm
  clear R B R1_5 R2_5 R3_5 R4_5 R5_5 B5
  go_wp2_with fail
  refine (runsBegun_any w6).mono ?_
  rintro e w7 ⟨rfl, B⟩
  have R1_7 := hid (R1_6.out.later B)
  have R2_7 := hid (R2_6.out.later B)
  have R3_7 := hid (R3_6.out.later B)
  have R4_7 := hid (R4_6.out.later B)
  have R5_7 := hid (R5_6.out.later B)
  have R6_7 := hid (R6_6.out.later B)
  have B7 := hid (below_from B6.out B)
  clear B B6 R1_6 R2_6 R3_6 R4_6 R5_6 R6_6
  go_wp2_with fail
  refine (SameRuns_same w7 a1 a4 n1 cap1 cap4 r1 R1_7.out R4_7.out).mono ?_
  rintro e w8 ⟨rfl, B⟩
  have R2_8 := hid (R2_7.out.later (below_of_drawn B))
  have R3_8 := hid (R3_7.out.later (below_of_drawn B))
  have R5_8 := hid (R5_7.out.later (below_of_drawn B))
  have R6_8 := hid (R6_7.out.later (below_of_drawn B))
  have B8 := hid (below_from B7.out (below_of_drawn B))
  clear B B7 R1_7 R2_7 R3_7 R4_7 R5_7 R6_7
  go_wp2_with fail
  refine (SameRuns_same w8 a2 a5 n2 cap2 cap5 r2 R2_8.out R5_8.out).mono ?_
  rintro e w9 ⟨rfl, B⟩
  have R3_9 := hid (R3_8.out.later (below_of_drawn B))
  have R6_9 := hid (R6_8.out.later (below_of_drawn B))
  have B9 := hid (below_from B8.out (below_of_drawn B))
  clear B B8 R2_8 R3_8 R5_8 R6_8
  go_wp2_with fail
  refine (SameRuns_same w9 a3 a6 n3 cap3 cap6 r3 R3_9.out R6_9.out).mono ?_
  rintro e w10 ⟨rfl, B⟩
  have B10 := hid (below_from B9.out (below_of_drawn B))
  clear B B9 R3_9 R6_9
  go_wp2
  go_ret
  exact ⟨rfl, B10.out⟩

set_option maxRecDepth 100000 in
theorem RunsTwo_lifted (os : Os) (started : os.Started) (H : Type) (enc : TypeId × Value → H) :
    ReturnsInHanded {} Try.checked os 4 .any (Rows.runsTwoSpec.pre6 enc Try.prog Try.f4 Rows.runsTwoRow.domain false) (Rows.runsTwoSpec.post enc Try.prog Try.f4 false true false false) := by
  refine returnsInHanded_of_change (C := Try.checked) own started (by kernel_rfl) Try.func4
    (ChangeSpec.witness6 (enc := enc) (C := Try.checked) false ⟨#[], #[.slice none 0 0, .slice none 0 0], []⟩ 8 (by kernel_rfl) (by kernel_rfl) (by kernel_rfl) (by kernel_rfl)) ?_
  intro W base args ds gs before hval0 hW hcnd _
  have hval : ∀ (j : Nat) t v, Try.f4.params[j]? = some t → args[j]? = some v → Value.okWide Try.prog W .any base t v := hval0
  have hW' := hW
  obtain ⟨p, q, hA0, hV, rfl, hfz, hnd⟩ := hW
  have hA : DataW.TrodAll enc Try.prog W 0 (fun _ => true) true Try.f4.params.toList args.toList ds p := hA0
  rw [Try.params4] at hA hval
  obtain ⟨v0, vs0, d0, ds0, p0, q0, hargs, rfl, rfl, h0, r0⟩ := trodAll_cons hA
  obtain ⟨v1, vs1, d1, ds1, p1, q1, rfl, rfl, rfl, h1, r1⟩ := trodAll_cons r0
  obtain ⟨rfl, rfl, rfl⟩ := trodAll_nil r1
  obtain rfl : args = #[v0, v1] := by cases args; simp_all
  obtain ⟨rfl, rfl⟩ := trodVars_none hV
  obtain ⟨a0, len0, cap0, rfl⟩ := okWide_slice Try.underlying22 (hval 0 22 v0 rfl rfl)
  have k0 := h0
  have lt0 : ∀ x ∈ p0, x.block < W.heap.size := by obtain ⟨m, hm⟩ := k0; exact DataW.trod_lt m _ _ _ hm
  obtain ⟨l0, w0⟩ : ∃ l, RunsIn W a0 len0 cap0 l := by
    obtain ⟨fuel, hf⟩ := h0
    exact runs_open (by simp [Value.cells]) hf
  obtain ⟨a1, len1, cap1, rfl⟩ := okWide_slice Try.underlying22 (hval 1 22 v1 rfl rfl)
  have k1 := h1
  have lt1 : ∀ x ∈ p1, x.block < W.heap.size := by obtain ⟨m, hm⟩ := k1; exact DataW.trod_lt m _ _ _ hm
  obtain ⟨l1, w1⟩ : ∃ l, RunsIn W a1 len1 cap1 l := by
    obtain ⟨fuel, hf⟩ := h1
    exact runs_open (by simp [Value.cells]) hf
  clear hA0 hval0
  refine (RunsTwo_walk W a0 len0 cap0 l0 a1 len1 cap1 l1 w0 w1).mono fun e W' ⟨he, bel⟩ => ?_
  subst he
  exact ⟨_, rfl, _, _, _, [], _, [], hW', trodAll_mk1 (shut_bool Try.underlying4 _), (trodAll_cons_mk (Below.trod laidOut (by kernel_rfl) (of_decide_eq_true (by kernel_rfl)) k0 bel lt0) (trodAll_cons_mk (Below.trod laidOut (by kernel_rfl) (of_decide_eq_true (by kernel_rfl)) k1 bel lt1) trodAll_mk0)), rfl, bel.frame _, fun h => by cases h⟩

theorem RunsTwo_holds : Rows.RunsTwoSaid :=
  OpenClaim.holds_of_wide 4 Try.f4 rfl rfl rfl rfl rfl rfl rfl ⟨rfl, rfl, rfl, rfl, rfl⟩ rfl rfl rfl rfl rfl (by kernel_rfl) Try.func4 (by kernel_rfl)
    (of_decide_eq_true (by kernel_rfl)) (by unfold Func.isWrapper; first | (rw [if_pos (by decide +kernel)]; kernel_rfl) | (rw [if_neg (by decide +kernel)]; exact ⟨rfl, rfl⟩))
    (fun os started H enc _ => RunsTwo_lifted os started H enc)
#print axioms RunsTwo_holds
end Go.Proofs.Ytdomonpjgldfgaa
