/- Contracts of room.Of where there is no such queue, of FirstOf, and of the statements' own roomBegun. -/
import Derived.Test.YtlkaamgmjgkpaacRoomA
import Derived.Test.YtlkaamgmjgkpaacLoadG
import Derived.Test.YtlkaamgmjgkpaacFindA
import Derived.Test.YtlkaamgmjgkpaacPlaceA
namespace Go.Proofs.Ytlkaamgmjgkpaac
open Go.RowKit Go.Shelf

attribute [local go_sem] Oper.semAt_some

set_option maxRecDepth 100000 in
theorem RoomOf_none (w : World) (a : Option Addr) (n cap : Nat) (l : QL) (hl : QsIn w a n cap l) (ba : Option Addr) (bn bc : Nat) (b : BL) (hb : BksIn w ba bn bc b) (q : Int) (hc : chkL l b = 0) (hq0 : 0 ≤ q) (hq1 : (n : Int) ≤ q) :
    Calls Try.prog 12 #[.slice a n cap, .slice ba bn bc, .int .i64 q] w fun e w' => Gives w w' e ([], 6) := by
  have hcb := hl.capb
  have hle := hl.le
  have hb0 : Below w.heap.size w (w.alloc (.cells #[.slice a n cap] 28)) := (Below.refl _ _).alloc (Nat.le_refl _) _
  have hK := Of_any _ _ n cap l (hl.later hb0) ba bn bc b (hb.later hb0)
  rw [hc] at hK
  have HK := hid hK
  have HB0 := hid hb0
  have hq0' : ¬ q < 0 := by omega
  have bL0 : Hid (Boxed (w.alloc (.cells #[.slice a n cap] 28)) w.heap.size 28 (.slice a n cap)) := Boxed.new w 28 (.slice a n cap)
  have cL0 := bL0.out.cell
  clear hl hb hc hK hb0
  refine (callsIn_wide (n := 4)).1 ?_
  refine callsIn_of_wp_marks Try.func12 rfl trivial ?_ rfl
  simp only [Try.ntmps12, List.size_toArray, List.length_cons, List.length_nil, Nat.reduceAdd, Nat.reduceSub, Array.replicate_succ, Array.replicate_zero, List.push_toArray, List.append_toArray, List.nil_append, List.cons_append]
  gi_wp2_with fail
  refine ⟨trivial, (callsIn_wide.2 HK.out).mono ?_⟩
  rintro e w1 ⟨a1, m1, k1, rfl, ht, _, B1⟩
  have HB1 := hid (below_from HB0.out B1)
  have bL1 : Hid (Boxed w1 w.heap.size 28 (.slice a n cap)) := (B1.block _ (by simp)).trans bL0.out
  have cL1 := bL1.out.cell
  have hsz1 : w.heap.size < w1.heap.size := bL1.out.lt
  clear ht B1 cL0
  gi_wp2
  exact ⟨_, results_tmp2 rfl _ _ _, none, 0, 0, rfl, runsIn_nil _, HB1.out.alloc (by omega) _⟩

set_option maxHeartbeats 1000000 in
theorem FirstOf_any (w : World) (a : Option Addr) (n cap : Nat) (f : RunL) (h : RunsIn w a n cap f) (t u L m : Int) :
    Calls Try.prog 10 #[.slice a n cap, .int .i64 t, .int .i64 u, .int .i64 L, .int .i64 m] w fun e w' => e = .returned (.tuple #[.int .i64 (firstR f t u L m).1, .bool (firstR f t u L m).2.1, .int .i64 (firstR f t u L m).2.2]) ∧ Below w.heap.size w w' := by
  have K1 := RunsFine_any w a n cap f h
  cases hf : fine f with
  | false =>
    have hr : firstR f t u L m = (0, false, 1) := by unfold firstR; rw [hf]; rfl
    rw [hr]
    rw [hf] at K1
    have HK1 := hid K1
    clear K1 hr hf
    go_enter Try.func10, Try.ntmps10
    go_wp2_with fail
    refine HK1.out.mono ?_
    rintro e w1 ⟨rfl, hd⟩
    have HB := hid (below_of_drawn hd)
    clear hd
    go_wp2
    go_ret3
    exact ⟨rfl, HB.out⟩
  | true =>
    rw [hf] at K1
    have HK1 := hid K1
    clear K1
    cases hs : spn t u with
    | false =>
      have hr : firstR f t u L m = (0, false, 3) := by unfold firstR; rw [hf, hs]; rfl
      rw [hr]
      have HS := hid hs
      clear hr hf hs
      go_enter Try.func10, Try.ntmps10
      go_wp2_with fail
      refine HK1.out.mono ?_
      rintro e w1 ⟨rfl, hd⟩
      have HB := hid (below_of_drawn hd)
      clear hd
      go_wp2_with fail
      refine (spanOf_any t u w1).mono ?_
      rintro e w2 ⟨rfl, hw2⟩
      rw [HS.out, hw2]
      clear hw2
      go_wp2
      go_ret3
      exact ⟨rfl, HB.out⟩
    | true =>
      cases hl : wth L 1 24 with
      | false =>
        have hr : firstR f t u L m = (0, false, 3) := by unfold firstR; rw [hf, hs, hl]; rfl
        rw [hr]
        have HS := hid hs
        have HLL := hid hl
        clear hr hf hs hl
        go_enter Try.func10, Try.ntmps10
        go_wp2_with fail
        refine HK1.out.mono ?_
        rintro e w1 ⟨rfl, hd⟩
        have HB := hid (below_of_drawn hd)
        clear hd
        go_wp2_with fail
        refine (spanOf_any t u w1).mono ?_
        rintro e w2 ⟨rfl, hw2⟩
        rw [HS.out, hw2]
        clear hw2
        go_wp2_with fail
        refine (within_any L 1 24 w1).mono ?_
        rintro e w2 ⟨rfl, hw2⟩
        rw [HLL.out, hw2]
        clear hw2
        go_wp2
        go_ret3
        exact ⟨rfl, HB.out⟩
      | true =>
        have hs' := of_decide_eq_true hs
        have hl' := of_decide_eq_true hl
        have hr : firstR f t u L m = ((firstV (vals f) t.toNat u.toNat L.toNat m).1, (firstV (vals f) t.toNat u.toNat L.toNat m).2, 0) := by
          unfold firstR
          rw [hf, hs, hl]
          show (match firstO f t.toNat u.toNat L.toNat m with | some t => ((t : Int), true, (0 : Int)) | none => (0, false, 0)) = _
          have hv : firstV (vals f) t.toNat u.toNat L.toNat m = (match firstO f t.toNat u.toNat L.toNat m with | some t => ((t : Int), true) | none => (0, false)) := rfl
          rw [hv]
          cases firstO f t.toNat u.toNat L.toNat m <;> rfl
        rw [hr]
        have HS := hid hs
        have HLL := hid hl
        have HF := hid (fine_iff.1 hf)
        have KF := hid fun X => first_any X (vals f) t u L m t.toNat u.toNat L.toNat (by omega) (by omega) (by omega) (by omega) (by omega) (by omega) (by omega)
        have KS := hid fun X (hX : Below w.heap.size w X) => spread_all X a n cap f (h.later hX) HF.out
        obtain ⟨V, hV⟩ : ∃ V, firstV (vals f) t.toNat u.toNat L.toNat m = V := ⟨_, rfl⟩
        rw [hV] at KF
        rw [hV]
        clear hr hf hs hl hs' hl' hV h
        go_enter Try.func10, Try.ntmps10
        go_wp2_with fail
        refine HK1.out.mono ?_
        rintro e w1 ⟨rfl, hd⟩
        have HB := hid (below_of_drawn hd)
        clear hd
        go_wp2_with fail
        refine (spanOf_any t u w1).mono ?_
        rintro e w2 ⟨rfl, hw2⟩
        rw [HS.out, hw2]
        clear hw2
        go_wp2_with fail
        refine (within_any L 1 24 w1).mono ?_
        rintro e w2 ⟨rfl, hw2⟩
        rw [HLL.out, hw2]
        clear hw2
        go_wp2_with fail
        refine (KS.out w1 HB.out).mono ?_
        rintro e w2 ⟨rfl, hb⟩
        have HB2 := hid (below_from HB.out hb)
        clear hb
        go_wp2_with fail
        refine (KF.out w2).mono ?_
        rintro e w3 ⟨rfl, hb⟩
        have HB3 := hid (below_from HB2.out hb)
        clear hb
        go_wp2
        go_ret3
        exact ⟨rfl, HB3.out⟩

theorem rb_chk (F c d : Nat) (ba : Option Addr) (bn : Nat) : chkL (fL F 0 6) (sownL c d ba bn [(0, 8), (1, 10)]) = 0 := by kernel_rfl
theorem rb_3 (F c d : Nat) (ba : Option Addr) (bn : Nat) : roomR (fL F 0 6) (sownL c d ba bn [(0, 8), (1, 10)]) 3 = [(0, 8), (8, 5), (10, -1), (12, 2), (15, 8), (20, 4)] := by kernel_rfl
theorem rb_f1 : firstR [(0, 8), (8, 5), (10, -1), (12, 2), (15, 8), (20, 4)] 1 48 10 4 = (15, true, 0) := by kernel_rfl
theorem rb_f2 : firstR [(0, 8), (8, 5), (10, -1), (12, 2), (15, 8), (20, 4)] 0 48 24 5 = (0, false, 0) := by kernel_rfl
theorem rb_f3 : firstR [(0, 8), (8, 5), (10, -1), (12, 2), (15, 8), (20, 4)] 5 5 1 1 = (0, false, 3) := by kernel_rfl

set_option maxRecDepth 100000 in
set_option maxHeartbeats 4000000 in
theorem roomBegun_any (w : World) : Calls Try.prog 11 #[] w fun e w' => e = .returned (.bool true) ∧ Below w.heap.size w w' := by
  go_enter Try.func11, Try.ntmps11
  go_wp2_with fail
  refine (field_any w).mono ?_
  rintro e f1 ⟨rfl, hf, hb⟩
  obtain ⟨F1, hF⟩ : ∃ F, w.heap.size = F := ⟨_, rfl⟩
  rw [hF] at hf ⊢
  have HB1 := hid hb
  have HF := hid hf
  clear hF hf hb
  go_wp2_with fail
  refine (sown_any f1).mono ?_
  rintro e s1 ⟨c1, d1, rfl, hs, hb, _⟩
  have HFq := hid (HF.out.later hb).qs
  have HS := hid hs
  have HB2 := hid (below_from HB1.out hb)
  clear hs hb HF HB1
  go_wp2_with fail
  have K := RoomOf_ok s1 _ 4 4 (fL F1 0 6) HFq.out _ 2 2 _ HS.out.bks 3 (rb_chk _ _ _ _ _) (by decide) (by decide)
  rw [rb_3] at K
  refine K.mono ?_
  clear K
  rintro e o1 ⟨a, m, k, rfl, hr, hb⟩
  obtain rfl : m = 6 := hr.len
  have HR := hid hr
  have HB3 := hid (below_from HB2.out hb)
  clear hr hb HB2 HFq HS
  go_wp2_with fail
  have K := First_any o1 a 6 k [(0, 8), (8, 5), (10, -1), (12, 2), (15, 8), (20, 4)] HR.out 1 48 10 4
  rw [rb_f1] at K
  refine K.mono ?_
  clear K
  rintro e o2 ⟨rfl, hb⟩
  have HR2 := hid (HR.out.later hb)
  have HB4 := hid (below_from HB3.out hb)
  clear hb HR HB3
  go_wp2_with fail
  have K := First_any o2 a 6 k [(0, 8), (8, 5), (10, -1), (12, 2), (15, 8), (20, 4)] HR2.out 0 48 24 5
  rw [rb_f2] at K
  refine K.mono ?_
  clear K
  rintro e o3 ⟨rfl, hb⟩
  have HR3 := hid (HR2.out.later hb)
  have HB5 := hid (below_from HB4.out hb)
  clear hb HR2 HB4
  go_wp2_with fail
  refine (field_any o3).mono ?_
  rintro e f2 ⟨rfl, hf, hb⟩
  obtain ⟨F2, hF⟩ : ∃ F, o3.heap.size = F := ⟨_, rfl⟩
  rw [hF] at hf ⊢
  have HF := hid hf
  have HR4 := hid (HR3.out.later hb)
  have HB6 := hid (below_from HB5.out hb)
  clear hF hf hb HR3 HB5
  go_wp2_with fail
  refine (sown_any f2).mono ?_
  rintro e s2 ⟨c2, d2, rfl, hs, hb, _⟩
  have HFq := hid (HF.out.later hb).qs
  have HS := hid hs
  have HR5 := hid (HR4.out.later hb)
  have HB7 := hid (below_from HB6.out hb)
  clear hs hb HF HR4 HB6
  go_wp2_with fail
  refine (RoomOf_none s2 _ 4 4 (fL F2 0 6) HFq.out _ 2 2 _ HS.out.bks 4 (rb_chk _ _ _ _ _) (by decide) (by decide)).mono ?_
  rintro e o4 ⟨a4, m4, k4, rfl, _, hb⟩
  have HR6 := hid (HR5.out.later hb)
  have HB8 := hid (below_from HB7.out hb)
  clear hb HR5 HB7 HFq HS
  go_wp2_with fail
  have K := First_any o4 a 6 k [(0, 8), (8, 5), (10, -1), (12, 2), (15, 8), (20, 4)] HR6.out 5 5 1 1
  rw [rb_f3] at K
  refine K.mono ?_
  clear K
  rintro e o5 ⟨rfl, hb⟩
  have HR7 := hid (HR6.out.later hb)
  have HB9 := hid (below_from HB8.out hb)
  clear hb HR6 HB8
  go_wp2_with fail
  have hb2 : Below o5.heap.size o5 (o5.alloc (.cells #[.int .i64 0, .int .i64 8, .int .i64 8, .int .i64 5, .int .i64 10, .int .i64 (-1), .int .i64 12, .int .i64 2, .int .i64 15, .int .i64 8, .int .i64 20, .int .i64 4] 74)) := (Below.refl _ _).alloc (Nat.le_refl _) _
  refine (SameRuns_same _ _ _ 6 _ _ [(0, 8), (8, 5), (10, -1), (12, 2), (15, 8), (20, 4)] (HR7.out.later hb2) (runs_lit o5 [(0, 8), (8, 5), (10, -1), (12, 2), (15, 8), (20, 4)] _ 6 rfl rfl (by decide))).mono ?_
  rintro e x1 ⟨rfl, hd⟩
  have HB10 := hid (below_from HB9.out (below_from hb2 (below_of_drawn hd)))
  clear hb2 hd
  go_wp2
  go_ret
  exact ⟨rfl, HB10.out⟩
end Go.Proofs.Ytlkaamgmjgkpaac
