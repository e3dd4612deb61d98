/- TreeTells: whatever queues, number and text it is handed, the call returns true, and its arguments read afterwards as they read before. -/
import Derived.Test.YtphcphbmojioiaaTreeJ
import Derived.Test.YtphcphbmojioiaaFrameQ
namespace Go.Proofs.Ytphcphbmojioiaa
open Go.ChangeShapes Go.WideShapes Go.ChangeAt Go.RowKit
open Go.ChangeMaps (open_string shut_string)

set_option maxHeartbeats 2000000 in
theorem TreeTells_err (w : World) (a : Option Addr) (n cap : Nat) (l : QL) (q : Int) (s : ByteArray) (h : QsIn w a n cap l) (hs : s.size ≤ 9223372036854775807) (er : Int) (her : qErr l q = er) (h0 : er ≠ 0) :
    Calls Try.prog 7 #[.slice a n cap, .int .i64 q, .string s] w fun e w' => e = .returned (.bool true) ∧ Below w.heap.size w w' := by
  have hl0 : lineR l q = [] := by rw [lineR, if_neg (by rw [her]; exact h0)]
  have hu0 : underR l q = [] := by rw [underR, if_neg (by rw [her]; exact h0)]
  have hz : (er == 0) = false := by simp [h0]
  clear h0
  have HER := hid her
  have HL0 := hid hl0
  have HU0 := hid hu0
  clear hl0 hu0
  clear her
  go_enter Try.func7, Try.ntmps7
  go_wp2_with fail
  have K := Line_any w a n cap l q h
  rw [HER.out, HL0.out] at K
  refine K.mono ?_
  clear K
  rintro e w1 ⟨a1, n1, cap1, rfl, IA, B⟩
  have IA_1 := hid IA
  have B1 := hid B
  clear IA B
  go_wp2_with fail
  have K := Under_any w1 a n cap l q (h.later B1.out)
  rw [HER.out, HU0.out] at K
  refine K.mono ?_
  clear K
  rintro e w2 ⟨a2, n2, cap2, rfl, UA, B⟩
  have IA_2 := hid (IA_1.out.later B)
  have UA_2 := hid UA
  have B2 := hid (below_from B1.out B)
  clear UA B IA_1 B1
  go_wp2_with fail
  have K := QueueError_any w2 a n cap l q (h.later B2.out)
  rw [HER.out] at K
  refine K.mono ?_
  clear K
  rintro e w3 ⟨rfl, B⟩
  have IA_3 := hid (IA_2.out.later B)
  have UA_3 := hid (UA_2.out.later B)
  have B3 := hid (below_from B2.out B)
  clear B IA_2 UA_2 B2
  obtain rfl : n1 = 0 := IA_3.out.len
  obtain rfl : n2 = 0 := UA_3.out.len
  have IB_3 := hid (intsIn_nil w3)
  have UB_3 := hid (boolsIn_nil w3)
  go_wp2_with fail
  refine (treeBegun_any w3).mono ?_
  rintro e w4 ⟨rfl, B⟩
  have IA_4 := hid (IA_3.out.later B)
  have IB_4 := hid (IB_3.out.later B)
  have UA_4 := hid (UA_3.out.later B)
  have UB_4 := hid (UB_3.out.later B)
  have B4 := hid (below_from B3.out B)
  clear B B3 IA_3 IB_3 UA_3 UB_3
  go_wp2_with fail
  refine (CheckT_any w4 a n cap l (h.later B4.out)).mono ?_
  rintro e w5 ⟨rfl, B⟩
  have IA_5 := hid (IA_4.out.later B)
  have IB_5 := hid (IB_4.out.later B)
  have UA_5 := hid (UA_4.out.later B)
  have UB_5 := hid (UB_4.out.later B)
  have B5 := hid (below_from B4.out B)
  clear B B4 IA_4 IB_4 UA_4 UB_4
  go_wp2_with fail
  refine (CheckTree_any w5 a n cap l (h.later B5.out)).mono ?_
  rintro e w6 ⟨rfl, B⟩
  have IA_6 := hid (IA_5.out.later B)
  have IB_6 := hid (IB_5.out.later B)
  have UA_6 := hid (UA_5.out.later B)
  have UB_6 := hid (UB_5.out.later B)
  have B6 := hid (below_from B5.out B)
  clear B B5 IA_5 IB_5 UA_5 UB_5
  have hcc : (chkT l == chkT l) = true := by simp
  go_wp2_with fail
  refine (Name_any s w6 hs).mono ?_
  rintro e w7 ⟨rfl, hw7⟩
  rw [hw7]
  clear hw7
  go_wp2_with fail
  refine (IsName_any s w6 hs).mono ?_
  rintro e w8 ⟨rfl, hw8⟩
  rw [hw8]
  clear hw8
  have hnn : (isName s == isName s) = true := by simp
  go_wp2_with fail
  refine (SameInts_same w6 _ _ _ _ _ _ IA_6.out IB_6.out).mono ?_
  rintro e w9 ⟨rfl, B⟩
  have UA := hid (UA_6.out.later (below_of_drawn B))
  have UB := hid (UB_6.out.later (below_of_drawn B))
  have BX := hid (below_from B6.out (below_of_drawn B))
  clear B B6 IA_6 IB_6 UA_6 UB_6
  have hee : (er == er) = true := by simp
  go_wp2_with fail
  refine (SameBools_same w9 _ _ _ _ _ _ UA.out UB.out).mono ?_
  rintro e w10 ⟨rfl, B⟩
  have BY := hid (below_from BX.out (below_of_drawn B))
  clear B
  go_wp2
  go_ret
  exact ⟨rfl, BY.out⟩

set_option maxHeartbeats 2000000 in
theorem TreeTells_ok (w : World) (a : Option Addr) (n cap : Nat) (l : QL) (q : Int) (s : ByteArray) (h : QsIn w a n cap l) (hs : s.size ≤ 9223372036854775807) (er : Int) (her : qErr l q = er) (h0 : er = 0) :
    Calls Try.prog 7 #[.slice a n cap, .int .i64 q, .string s] w fun e w' => e = .returned (.bool true) ∧ Below w.heap.size w w' := by
  obtain ⟨hc, hq0, hqn⟩ := qErr_zero (her.trans h0)
  have HR := hid (right_of hc)
  have hl0 : lineR l q = lineOf l q := by rw [lineR, if_pos (her.trans h0)]
  have hu0 : underR l q = underOf l n q := by rw [underR, if_pos (her.trans h0), h.len]
  have hqn' : q < n := by rw [h.len]; exact hqn
  have hz : (er == 0) = true := by simp [h0]
  clear hc hqn h0
  have HER := hid her
  have HL0 := hid hl0
  have HU0 := hid hu0
  clear hl0 hu0
  clear her
  go_enter Try.func7, Try.ntmps7
  go_wp2_with fail
  have K := Line_any w a n cap l q h
  rw [HER.out, HL0.out] at K
  refine K.mono ?_
  clear K
  rintro e w1 ⟨a1, n1, cap1, rfl, IA, B⟩
  have IA_1 := hid IA
  have B1 := hid B
  clear IA B
  go_wp2_with fail
  have K := Under_any w1 a n cap l q (h.later B1.out)
  rw [HER.out, HU0.out] at K
  refine K.mono ?_
  clear K
  rintro e w2 ⟨a2, n2, cap2, rfl, UA, B⟩
  have IA_2 := hid (IA_1.out.later B)
  have UA_2 := hid UA
  have B2 := hid (below_from B1.out B)
  clear UA B IA_1 B1
  go_wp2_with fail
  have K := QueueError_any w2 a n cap l q (h.later B2.out)
  rw [HER.out] at K
  refine K.mono ?_
  clear K
  rintro e w3 ⟨rfl, B⟩
  have IA_3 := hid (IA_2.out.later B)
  have UA_3 := hid (UA_2.out.later B)
  have B3 := hid (below_from B2.out B)
  clear B IA_2 UA_2 B2
  go_wp2_with fail
  refine (LineOf_any w3 a n cap l q (h.later B3.out) HR.out hqn').mono ?_
  rintro e w4 ⟨v, rfl, ho, B⟩
  obtain ⟨a5, cap5, rfl, IB⟩ := ho.parts
  obtain rfl : n1 = (lineOf l q).length := IA_3.out.len
  have IA_4 := hid (IA_3.out.later B)
  have IB_4 := hid IB
  have UA_4 := hid (UA_3.out.later B)
  have B4 := hid (below_from B3.out B)
  clear B IA_3 UA_3 B3 IB ho
  go_wp2_with fail
  refine (UnderOf_any w4 a n cap l q (h.later B4.out) HR.out).mono ?_
  rintro e w5 ⟨a6, cap6, rfl, UB, B⟩
  obtain rfl : n = n2 := UB.len.trans UA_4.out.len.symm
  have IA_5 := hid (IA_4.out.later B)
  have IB_5 := hid (IB_4.out.later B)
  have UA_5 := hid (UA_4.out.later B)
  have UB_5 := hid UB
  have B5 := hid (below_from B4.out B)
  clear B IA_4 UA_4 IB_4 B4 UB
  go_wp2_with fail
  refine (treeBegun_any w5).mono ?_
  rintro e w6 ⟨rfl, B⟩
  have IA_6 := hid (IA_5.out.later B)
  have IB_6 := hid (IB_5.out.later B)
  have UA_6 := hid (UA_5.out.later B)
  have UB_6 := hid (UB_5.out.later B)
  have B6 := hid (below_from B5.out B)
  clear B B5 IA_5 IB_5 UA_5 UB_5
  go_wp2_with fail
  refine (CheckT_any w6 a n cap l (h.later B6.out)).mono ?_
  rintro e w7 ⟨rfl, B⟩
  have IA_7 := hid (IA_6.out.later B)
  have IB_7 := hid (IB_6.out.later B)
  have UA_7 := hid (UA_6.out.later B)
  have UB_7 := hid (UB_6.out.later B)
  have B7 := hid (below_from B6.out B)
  clear B B6 IA_6 IB_6 UA_6 UB_6
  go_wp2_with fail
  refine (CheckTree_any w7 a n cap l (h.later B7.out)).mono ?_
  rintro e w8 ⟨rfl, B⟩
  have IA_8 := hid (IA_7.out.later B)
  have IB_8 := hid (IB_7.out.later B)
  have UA_8 := hid (UA_7.out.later B)
  have UB_8 := hid (UB_7.out.later B)
  have B8 := hid (below_from B7.out B)
  clear B B7 IA_7 IB_7 UA_7 UB_7
  have hcc : (chkT l == chkT l) = true := by simp
  go_wp2_with fail
  refine (Name_any s w8 hs).mono ?_
  rintro e w9 ⟨rfl, hw9⟩
  rw [hw9]
  clear hw9
  go_wp2_with fail
  refine (IsName_any s w8 hs).mono ?_
  rintro e w10 ⟨rfl, hw10⟩
  rw [hw10]
  clear hw10
  have hnn : (isName s == isName s) = true := by simp
  go_wp2_with fail
  refine (SameInts_same w8 _ _ _ _ _ _ IA_8.out IB_8.out).mono ?_
  rintro e w11 ⟨rfl, B⟩
  have UA := hid (UA_8.out.later (below_of_drawn B))
  have UB := hid (UB_8.out.later (below_of_drawn B))
  have BX := hid (below_from B8.out (below_of_drawn B))
  clear B B8 IA_8 IB_8 UA_8 UB_8
  have hee : (er == er) = true := by simp
  go_wp2_with fail
  refine (SameBools_same w11 _ _ _ _ _ _ UA.out UB.out).mono ?_
  rintro e w12 ⟨rfl, B⟩
  have BY := hid (below_from BX.out (below_of_drawn B))
  clear B
  go_wp2
  go_ret
  exact ⟨rfl, BY.out⟩

theorem TreeTells_walk (w : World) (a : Option Addr) (n cap : Nat) (l : QL) (q : Int) (s : ByteArray) (h : QsIn w a n cap l) (hs : s.size ≤ maxLen) :
    Calls Try.prog 7 #[.slice a n cap, .int .i64 q, .string s] w fun e w' => e = .returned (.bool true) ∧ Below w.heap.size w w' := by
  by_cases h0 : qErr l q = 0
  · exact TreeTells_ok w a n cap l q s h hs _ rfl h0
  · exact TreeTells_err w a n cap l q s h hs _ rfl h0

set_option maxRecDepth 100000 in
theorem TreeTells_lifted (os : Os) (started : os.Started) (H : Type) (enc : TypeId × Value → H) :
    ReturnsInHanded {} Try.checked os 7 .any (Rows.treeTellsSpec.pre6 enc Try.prog Try.f7 Rows.treeTellsRow.domain false) (Rows.treeTellsSpec.post enc Try.prog Try.f7 false true false false) := by
  refine returnsInHanded_of_change (C := Try.checked) own started (by kernel_rfl) Try.func7
    (ChangeSpec.witness6 (enc := enc) (C := Try.checked) false ⟨#[], #[.slice none 0 0, .int .i64 0, .string ByteArray.empty], []⟩ 8 (by kernel_rfl) (by kernel_rfl) (by kernel_rfl) (by kernel_rfl)) ?_
  intro W base args ds gs before hval0 hW hcnd _
  have hval : ∀ (j : Nat) t v, Try.f7.params[j]? = some t → args[j]? = some v → Value.okWide Try.prog W .any base t v := hval0
  have hW' := hW
  obtain ⟨p, q, hA0, hV, rfl, hfz, hnd⟩ := hW
  have hA : DataW.TrodAll enc Try.prog W 0 (fun _ => true) true Try.f7.params.toList args.toList ds p := hA0
  rw [Try.params7] at hA hval
  obtain ⟨v0, vs0, d0, ds0, p0, q0, hargs, rfl, rfl, h0, r0⟩ := trodAll_cons hA
  obtain ⟨v1, vs1, d1, ds1, p1, q1, rfl, rfl, rfl, h1, r1⟩ := trodAll_cons r0
  obtain ⟨v2, vs2, d2, ds2, p2, q2, rfl, rfl, rfl, h2, r2⟩ := trodAll_cons r1
  obtain ⟨rfl, rfl, rfl⟩ := trodAll_nil r2
  obtain rfl : args = #[v0, v1, v2] := by cases args; simp_all
  obtain ⟨rfl, rfl⟩ := trodVars_none hV
  obtain ⟨a0, len0, cap0, rfl⟩ := okWide_slice Try.underlying37 (hval 0 37 v0 rfl rfl)
  have k0 := h0
  have lt0 : ∀ x ∈ p0, x.block < W.heap.size := by obtain ⟨m, hm⟩ := k0; exact DataW.trod_lt m _ _ _ hm
  obtain ⟨l0, w0⟩ : ∃ l, QsIn W a0 len0 cap0 l := by
    obtain ⟨fuel, hf⟩ := h0
    exact qs_open (by simp [Value.cells]) hf
  obtain ⟨a1, rfl, rfl, rfl, w1⟩ := open_int Try.underlying3 (hval 1 3 v1 rfl rfl) h1
  obtain ⟨a2, rfl, rfl, rfl, w2⟩ := open_string Try.underlying9 (hval 2 9 v2 rfl rfl) h2
  clear hA0 hval0
  refine (TreeTells_walk W a0 len0 cap0 l0 a1 a2 w0 w2).mono fun e W' ⟨he, bel⟩ => ?_
  subst he
  exact ⟨_, rfl, _, _, _, [], _, [], hW', trodAll_mk1 (shut_bool Try.underlying4 _), (trodAll_cons_mk (Below.trod laidOut (by kernel_rfl) (of_decide_eq_true (by kernel_rfl)) k0 bel lt0) (trodAll_cons_mk (shut_int Try.underlying3 w1) (trodAll_cons_mk (shut_string Try.underlying9 w2) trodAll_mk0))), rfl, bel.frame _, fun h => by cases h⟩

theorem TreeTells_holds : Rows.TreeTellsSaid :=
  OpenClaim.holds_of_wide 7 Try.f7 rfl rfl rfl rfl rfl rfl rfl ⟨rfl, rfl, rfl, rfl, rfl⟩ rfl rfl rfl rfl rfl (by kernel_rfl) Try.func7 (by kernel_rfl)
    (of_decide_eq_true (by kernel_rfl)) (by unfold Func.isWrapper; first | (rw [if_pos (by decide +kernel)]; kernel_rfl) | (rw [if_neg (by decide +kernel)]; exact ⟨rfl, rfl⟩))
    (fun os started H enc _ => TreeTells_lifted os started H enc)
#print axioms TreeTells_holds
end Go.Proofs.Ytphcphbmojioiaa
