/- CutFair (nobody gives way who took nothing when too much was taken): whatever state, queue and room it is handed, where all of it is of bulk at most 1048576, the call returns true, and its arguments read afterwards as they read before. -/
import Derived.Test.YtecibbokbonmcaeGreatKAll11
import Derived.Test.YtecibbokbonmcaeGreatKAll4
namespace Go.Proofs.YtecibbokbonmcaeGreat
open Go.ChangeShapes Go.WideShapes Go.ChangeAt Go.RowKit

theorem CutFair_walk (w : World) (c n : Int) (ta : Option Addr) (tn tc : Nat) (l : QL) (ba : Option Addr) (bn bc : Nat) (b : BL) (h : StIn w ta tn tc l ba bn bc b) (q : Int) (_q0 : -9223372036854775808 ≤ q) (_q1 : q ≤ 9223372036854775807) (ra : Option Addr) (rn rc : Nat) (rs : RunL) (hr : RunsIn w ra rn rc rs) (hrn : rn ≤ 1048576) :
    Calls Tryz.prog 6 #[.agg #[.int .i64 c, .int .i64 n, .slice ta tn tc, .slice ba bn bc], .int .i64 q, .slice ra rn rc] w fun e w' => e = .returned (.bool true) ∧ Below w.heap.size w w' :=
  CutFair_any w c n ta tn tc l ba bn bc b h q ra rn rc rs hr hrn

set_option maxRecDepth 100000 in
theorem CutFair_lifted (os : Os) (started : os.Started) (H : Type) (enc : TypeId × Value → H) (F : Stop.Interp) :
    ReturnsInHanded {} Tryz.checked os 6 .any ((Rows.OpenSpec.upto Rows.cutFairSpec).pre6 enc Tryz.prog Tryz.f6 Rows.cutFairUptoRow.domain false) (((Rows.OpenSpec.upto Rows.cutFairSpec).at F).post enc Tryz.prog Tryz.f6 false true false false) := by
  refine returnsInHanded_of_cond (C := Tryz.checked) (s := Rows.OpenSpec.upto Rows.cutFairSpec) (k := Rows.uptoSmall) rfl own started (by kernel_rfl) Tryz.func6
    (OpenSpec.witness (enc := enc) (C := Tryz.checked) (s := Rows.OpenSpec.upto Rows.cutFairSpec) (k := Rows.uptoSmall) rfl false ⟨#[], #[.agg #[.int .i64 0, .int .i64 0, .slice none 0 0, .slice none 0 0], .int .i64 0, .slice none 0 0], []⟩ 8 (by kernel_rfl) (by kernel_rfl) (by kernel_rfl)
      (x := ([.agg [.lit (.int .i64 0), .lit (.int .i64 0), .nil, .nil], .lit (.int .i64 0), .nil], [], [])) (by kernel_rfl) rfl (by kernel_rfl)) ?_
  intro W base args ds gs before hval0 hW hcnd hk _
  have hval : ∀ (j : Nat) t v, Tryz.f6.params[j]? = some t → args[j]? = some v → Value.okWide Tryz.prog W .any base t v := hval0
  have hW' := hW
  obtain ⟨p, q, hA0, hV, rfl, hfz, hnd⟩ := hW
  have hA : DataW.TrodAll enc Tryz.prog W 0 (fun _ => true) true Tryz.f6.params.toList args.toList ds p := hA0
  rw [Tryz.params6] at hA hval
  obtain ⟨v0, vs0, d0, ds0, p0, q0, hargs, rfl, rfl, h0, r0⟩ := trodAll_cons hA
  obtain ⟨v1, vs1, d1, ds1, p1, q1, rfl, rfl, rfl, h1, r1⟩ := trodAll_cons r0
  obtain ⟨v2, vs2, d2, ds2, p2, q2, rfl, rfl, rfl, h2, r2⟩ := trodAll_cons r1
  obtain ⟨rfl, rfl, rfl⟩ := trodAll_nil r2
  obtain rfl : args = #[v0, v1, v2] := by cases args; simp_all
  obtain ⟨rfl, rfl⟩ := trodVars_none hV
  have k0 := h0
  have lt0 : ∀ x ∈ p0, x.block < W.heap.size := by obtain ⟨m, hm⟩ := k0; exact DataW.trod_lt m _ _ _ hm
  obtain ⟨sc0, sn0, sta0, stn0, stc0, sl0, sba0, sbn0, sbc0, sb0, rfl, w0⟩ := st_arg (hval 0 25 v0 rfl rfl) h0
  obtain ⟨a1, rfl, rfl, rfl, w1⟩ := open_int Tryz.underlying3 (hval 1 3 v1 rfl rfl) h1
  have b1 := wf_range w1
  have k2 := h2
  have lt2 : ∀ x ∈ p2, x.block < W.heap.size := by obtain ⟨m, hm⟩ := k2; exact DataW.trod_lt m _ _ _ hm
  obtain ⟨a2, len2, cap2, rfl⟩ := okWide_slice Tryz.underlying26 (hval 2 26 v2 rfl rfl)
  obtain ⟨l2, w2⟩ : ∃ l, RunsIn W a2 len2 cap2 l := by
    obtain ⟨fuel, hf⟩ := h2
    exact runs_open (by simp [Value.cells]) hf
  have bb2 : len2 ≤ 1048576 := by
    have h1 := bulk_slice Tryz.underlying26 k2
    have h2 := bulk_bound hk
    simp only [Rows.uptoBulkAll, List.append_nil] at h2
    omega
  clear hA0 hval0
  refine (CutFair_walk W sc0 sn0 sta0 stn0 stc0 sl0 sba0 sbn0 sbc0 sb0 w0 a1 b1.1 b1.2 a2 len2 cap2 l2 w2 bb2).mono fun e W' ⟨he, bel⟩ => ?_
  subst he
  exact ⟨_, rfl, _, _, _, [], _, [], hW', trodAll_mk1 (shut_bool Tryz.underlying4 _), (trodAll_cons_mk (Below.trod laidOut (by kernel_rfl) (of_decide_eq_true (by kernel_rfl)) k0 bel lt0) (trodAll_cons_mk (shut_int Tryz.underlying3 w1) (trodAll_cons_mk (Below.trod laidOut (by kernel_rfl) (of_decide_eq_true (by kernel_rfl)) k2 bel lt2) trodAll_mk0))), rfl, bel.frame _, fun h => by cases h⟩

theorem CutFair_holds : Rows.CutFairUptoSaid :=
  OpenClaim.holds_of_cond 6 Tryz.f6 rfl rfl rfl rfl rfl rfl rfl ⟨rfl, rfl, rfl, rfl, rfl⟩ rfl rfl rfl rfl rfl (by kernel_rfl) Tryz.func6 (by kernel_rfl)
    (of_decide_eq_true (by kernel_rfl)) (by unfold Func.isWrapper; first | (rw [if_pos (by decide +kernel)]; kernel_rfl) | (rw [if_neg (by decide +kernel)]; exact ⟨rfl, rfl⟩))
    (fun os started H enc _ F => CutFair_lifted os started H enc F)
#print axioms CutFair_holds
end Go.Proofs.YtecibbokbonmcaeGreat
