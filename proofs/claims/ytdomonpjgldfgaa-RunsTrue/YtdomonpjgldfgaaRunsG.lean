/- Contracts of the reference's both, PlusOf, MinusOf, LesserOf and BumpOf. -/
import Derived.Test.YtdomonpjgldfgaaRunsF
import Derived.Deep.RegionHeld3
namespace Go.Proofs.Ytdomonpjgldfgaa
open Go.RowKit

set_option maxHeartbeats 1000000 in
theorem both_fine (k : Nat) (jn : Int → Int → Int) (hj : JoinsBy k jn) (w : World) (a1 a2 : Option Addr) (n1 n2 cap1 cap2 : Nat) (l1 l2 : RunL) (h1 : RunsIn w a1 n1 cap1 l1) (h2 : RunsIn w a2 n2 cap2 l2) (hf1 : fine l1 = true) (hf2 : fine l2 = true) :
   Calls Try.prog 50 #[.slice a1 n1 cap1, .slice a2 n2 cap2, .func (.func k) #[] #[]] w fun e w' => Gives w w' e (tell (jv jn l1 l2)) := by
  obtain ⟨hjf, hjc⟩ := hj
  have HJ := hid hjc
  clear hjc
  have F1 := hid (fine_iff.1 hf1)
  have F2 := hid (fine_iff.1 hf2)
  have HR : Hid (∀ f, (∀ i, i < 48 → f i = jv jn l1 l2 i) → tabA f = tabA (jv jn l1 l2)) := fun f h => tabA_congr h
  obtain ⟨v, hv⟩ : ∃ v, v = jv jn l1 l2 := ⟨_, rfl⟩
  rw [← hv] at HR ⊢
  have HV := hid hv
  clear hv
  go_enter Try.func50, Try.ntmps50
  go_wp2_with fail
  refine (RunsFine_any _ _ _ _ l1 h1).mono ?_
  rintro e w1 ⟨rfl, hb⟩
  have B1 := hid (below_of_drawn hb)
  clear hb
  rw [hf1]
  go_wp2_with fail
  refine (RunsFine_any _ _ _ _ l2 (h2.later B1.out)).mono ?_
  rintro e w2 ⟨rfl, hb⟩
  have B2 := hid (below_from B1.out (below_of_drawn hb))
  clear hb B1
  rw [hf2]
  go_wp2_with fail
  refine (spread_all _ _ _ _ l1 (h1.later B2.out) F1.out).mono ?_
  rintro e w3 ⟨rfl, hb⟩
  have B3 := hid (below_from B2.out hb)
  clear hb B2
  go_wp2_with fail
  refine (spread_all _ _ _ _ l2 (h2.later B3.out) F2.out).mono ?_
  rintro e w4 ⟨rfl, hb⟩
  have B4 := hid (below_from B3.out hb)
  clear hb B3
  go_wp2_with (first
    | (refine wpList_store_tab rfl (.tmp 8) (.tmp 20) rfl w4.heap.size (vals l1) _ rfl rfl (heap_alloc2_old w4 _ _) rfl ?_; intro W5 hT5 hO5 hB5; have HT5 := hid hT5; have HB5 := hid hB5; have HO5 := hid (hO5 (w4.heap.size + 1) (by omega)); clear hT5 hO5 hB5)
    | (refine wpList_store_tab rfl (.tmp 9) (.tmp 22) rfl (w4.heap.size + 1) (vals l2) _ rfl rfl (HO5.out.trans (heap_alloc2_new w4 _ _)) rfl ?_; intro W6 hT6 hO6 hB6; have HT6 := hid hT6; have HB6 := hid hB6; have HO6 := hid (hO6 w4.heap.size (by omega)); clear hT6 hO6 hB6))
  have T5 : Hid (Tab W6 w4.heap.size (vals l1)) := HO6.out.trans HT5.out
  have B6 : Hid (Below w.heap.size w W6) := by
    have q1 : Below w.heap.size w W5 := (below_from B4.out (((Below.refl _ _).alloc (Nat.le_refl _) _).alloc (by simp) _)).trans (HB5.out.mono B4.out.size)
    exact q1.trans (HB6.out.mono (by have := B4.out.size; omega))
  have hB4 : w.heap.size ≤ w4.heap.size := B4.out.size
  clear HO6 HT5 HB5 HO5 HB6 B4
  generalize w4.heap.size = g at *
  go_loopw [10] (fun st wr => ∃ (t : Nat) (f : Nat → Int), st = .int .i64 t ∧ t ≤ 48 ∧ Tab wr g f ∧ (∀ i, i < t → f i = v i) ∧ (∀ i, t ≤ i → f i = vals l1 i) ∧ Tab wr (g + 1) (vals l2) ∧ Below w.heap.size w wr) (fun st _ => 48 - (intOf st).toNat)
  case atStart => exact ⟨0, vals l1, rfl, by omega, T5.out, fun i hi => by omega, fun i _ => rfl, HT6.out, B6.out⟩
  case round =>
    obtain ⟨t, f, rfl, ht, hT, hlo, hhi, hT2, hbel⟩ := hrel
    by_cases htl : t < 48
    · have htl' : (t : Int) < 48 := by omega
      have cx := hT.cell htl
      have fx := hT.frozen t
      have cy := hT2.cell htl
      rw [hhi t (Nat.le_refl _)] at cx
      have q1 : Hid (bdd (vals l1 t) = true) := valAt_bdd F1.out (t : Int) (by omega)
      have q2 : Hid (bdd (vals l2 t) = true) := valAt_bdd F2.out (t : Int) (by omega)
      have HT := hid hT
      have HT2 := hid hT2
      have HLO := hid hlo
      have HHI := hid hhi
      have HB := hid hbel
      clear hT hT2 hlo hhi hbel
      go_wp2
      go_region_with (refine (HJ.out (vals l1 t) (vals l2 t) _ q1.out q2.out).mono ?_; rintro e w' ⟨rfl, rfl⟩)
      all_goals
        go_wp2
        go_roundw
        case rel => exact ⟨t + 1, upd f t (jn (vals l1 t) (vals l2 t)), by go_num, by omega, HT.out.set t _, upd_to HLO.out (by rw [HV.out]; rfl), fun i hi => by rw [upd, if_neg (by omega)]; exact HHI.out i (by omega), HT2.out.other (by simp) _, (HB.out.setCell (by show w.heap.size ≤ g; omega) _).drew⟩
        case measure => simp [intOf]; omega
    · obtain rfl : t = 48 := by omega
      have e1 : tabA f = tabA v := HR.out f hlo
      unfold Tab at hT
      rw [e1] at hT
      have HT := hid hT
      have HB := hid hbel
      clear hT hbel hT2 hlo hhi e1
      go_wp2_with (refine wpList_load_row rfl 61 (.tmp 8) rfl g rfl 61 (tabA v) (0, 0) _ HT.out Try.underlying61 rfl (size61 _) ?_)
      refine (told_any _ v).mono ?_
      rintro e w7 ⟨a, n, cap, rfl, hr, hb⟩
      go_wp2
      go_ret2
      exact ⟨a, n, cap, rfl, hr, below_from HB.out hb⟩

set_option maxHeartbeats 1000000 in
theorem both_any (k : Nat) (jn : Int → Int → Int) (hj : JoinsBy k jn) (w : World) (a1 a2 : Option Addr) (n1 n2 cap1 cap2 : Nat) (l1 l2 : RunL) (h1 : RunsIn w a1 n1 cap1 l1) (h2 : RunsIn w a2 n2 cap2 l2) :
   Calls Try.prog 50 #[.slice a1 n1 cap1, .slice a2 n2 cap2, .func (.func k) #[] #[]] w fun e w' => Gives w w' e (joinR jn l1 l2) := by
  cases hf1 : fine l1 with
  | false =>
    have hr : joinR jn l1 l2 = ([], 1) := by simp [joinR, hf1]
    rw [hr]
    go_enter Try.func50, Try.ntmps50
    go_wp2_with fail
    refine (RunsFine_any _ _ _ _ l1 h1).mono ?_
    rintro e w1 ⟨rfl, hb⟩
    have B1 := hid (below_of_drawn hb)
    clear hb
    rw [hf1]
    go_wp2
    go_ret2
    exact gives_err B1.out
  | true =>
    cases hf2 : fine l2 with
    | false =>
      have hr : joinR jn l1 l2 = ([], 1) := by simp [joinR, hf2]
      rw [hr]
      go_enter Try.func50, Try.ntmps50
      go_wp2_with fail
      refine (RunsFine_any _ _ _ _ l1 h1).mono ?_
      rintro e w1 ⟨rfl, hb⟩
      have B1 := hid (below_of_drawn hb)
      clear hb
      rw [hf1]
      go_wp2_with fail
      refine (RunsFine_any _ _ _ _ l2 (h2.later B1.out)).mono ?_
      rintro e w2 ⟨rfl, hb⟩
      have B2 := hid (below_from B1.out (below_of_drawn hb))
      clear hb B1
      rw [hf2]
      go_wp2
      go_ret2
      exact gives_err B2.out
    | true =>
      have hr : joinR jn l1 l2 = tell (jv jn l1 l2) := by simp [joinR, hf1, hf2]
      rw [hr]
      exact both_fine k jn hj w a1 a2 n1 n2 cap1 cap2 l1 l2 h1 h2 hf1 hf2

theorem joins51 : JoinsBy 51 (fun x y => x + y) := by
  refine JoinsBy.of (fun args w => by go_simp) fun x y w h1 h2 h3 h4 => ?_
  go_enter Try.func51, Try.ntmps51
  go_wp2
  go_ret
  exact ⟨rfl, rfl⟩
theorem joins52 : JoinsBy 52 (fun x y => x - y) := by
  refine JoinsBy.of (fun args w => by go_simp) fun x y w h1 h2 h3 h4 => ?_
  go_enter Try.func52, Try.ntmps52
  go_wp2
  go_ret
  exact ⟨rfl, rfl⟩
theorem joins53 : JoinsBy 53 (fun x y => min x y) := by
  refine JoinsBy.of (fun args w => by go_simp) fun x y w h1 h2 h3 h4 => ?_
  go_enter Try.func53, Try.ntmps53
  go_wp2
  all_goals
    go_ret
    exact ⟨ret_int (by omega), rfl⟩

theorem PlusOf_any (w : World) (a1 a2 : Option Addr) (n1 n2 cap1 cap2 : Nat) (l1 l2 : RunL) (h1 : RunsIn w a1 n1 cap1 l1) (h2 : RunsIn w a2 n2 cap2 l2) :
   Calls Try.prog 19 #[.slice a1 n1 cap1, .slice a2 n2 cap2] w fun e w' => Gives w w' e (joinR (fun x y => x + y) l1 l2) := by
  generalize hr : joinR (fun x y => x + y) l1 l2 = r
  have HR := hid hr
  clear hr
  go_enter Try.func19, Try.ntmps19
  go_wp2_with fail
  have hl := both_any 51 _ joins51 w a1 a2 n1 n2 cap1 cap2 l1 l2 h1 h2
  rw [HR.out] at hl
  refine hl.mono ?_
  clear hl
  rintro e w2 ⟨a, n, cap, rfl, hr, hb2⟩
  go_wp2
  go_ret2
  exact ⟨a, n, cap, rfl, hr, hb2⟩

theorem MinusOf_any (w : World) (a1 a2 : Option Addr) (n1 n2 cap1 cap2 : Nat) (l1 l2 : RunL) (h1 : RunsIn w a1 n1 cap1 l1) (h2 : RunsIn w a2 n2 cap2 l2) :
   Calls Try.prog 20 #[.slice a1 n1 cap1, .slice a2 n2 cap2] w fun e w' => Gives w w' e (joinR (fun x y => x - y) l1 l2) := by
  generalize hr : joinR (fun x y => x - y) l1 l2 = r
  have HR := hid hr
  clear hr
  go_enter Try.func20, Try.ntmps20
  go_wp2_with fail
  have hl := both_any 52 _ joins52 w a1 a2 n1 n2 cap1 cap2 l1 l2 h1 h2
  rw [HR.out] at hl
  refine hl.mono ?_
  clear hl
  rintro e w2 ⟨a, n, cap, rfl, hr, hb2⟩
  go_wp2
  go_ret2
  exact ⟨a, n, cap, rfl, hr, hb2⟩

theorem LesserOf_any (w : World) (a1 a2 : Option Addr) (n1 n2 cap1 cap2 : Nat) (l1 l2 : RunL) (h1 : RunsIn w a1 n1 cap1 l1) (h2 : RunsIn w a2 n2 cap2 l2) :
   Calls Try.prog 21 #[.slice a1 n1 cap1, .slice a2 n2 cap2] w fun e w' => Gives w w' e (joinR (fun x y => min x y) l1 l2) := by
  generalize hr : joinR (fun x y => min x y) l1 l2 = r
  have HR := hid hr
  clear hr
  go_enter Try.func21, Try.ntmps21
  go_wp2_with fail
  have hl := both_any 53 _ joins53 w a1 a2 n1 n2 cap1 cap2 l1 l2 h1 h2
  rw [HR.out] at hl
  refine hl.mono ?_
  clear hl
  rintro e w2 ⟨a, n, cap, rfl, hr, hb2⟩
  go_wp2
  go_ret2
  exact ⟨a, n, cap, rfl, hr, hb2⟩

set_option maxHeartbeats 1000000 in
theorem BumpOf_any (w : World) (a0 : Option Addr) (n0 cap0 : Nat) (l : RunL) (a b n : Int) (h : RunsIn w a0 n0 cap0 l) :
   Calls Try.prog 24 #[.slice a0 n0 cap0, .int .i64 a, .int .i64 b, .int .i64 n] w fun e w' => Gives w w' e (bumpR l a b n) := by
  cases hf : fine l with
  | false =>
    have hr : bumpR l a b n = ([], 1) := by simp [bumpR, hf]
    rw [hr]
    go_enter Try.func24, Try.ntmps24
    go_wp2_with fail
    refine (RunsFine_any _ _ _ _ l h).mono ?_
    rintro e w1 ⟨rfl, hb⟩
    have B1 := hid (below_of_drawn hb)
    clear hb
    rw [hf]
    go_wp2
    go_ret2
    exact gives_err B1.out
  | true =>
    cases hs : spn a b with
    | false =>
      have hr : bumpR l a b n = ([], 3) := by simp [bumpR, hf, hs]
      rw [hr]
      go_enter Try.func24, Try.ntmps24
      go_wp2_with fail
      refine (RunsFine_any _ _ _ _ l h).mono ?_
      rintro e w1 ⟨rfl, hb⟩
      have B1 := hid (below_of_drawn hb)
      clear hb
      rw [hf]
      go_wp2_with (go_at_call 42; refine (spanOf_any _ _ _).mono ?_; rintro e w' ⟨rfl, rfl⟩; rw [hs])
      go_ret2
      exact gives_err B1.out
    | true =>
      cases hn : bdd n with
      | false =>
        have hn' : wth n (-1048576) 1048576 = false := hn
        have hr : bumpR l a b n = ([], 3) := by simp [bumpR, hf, hn]
        rw [hr]
        go_enter Try.func24, Try.ntmps24
        go_wp2_with fail
        refine (RunsFine_any _ _ _ _ l h).mono ?_
        rintro e w1 ⟨rfl, hb⟩
        have B1 := hid (below_of_drawn hb)
        clear hb
        rw [hf]
        go_wp2_with (first | (go_at_call 42; refine (spanOf_any _ _ _).mono ?_; rintro e w' ⟨rfl, rfl⟩; rw [hs]) | (go_at_call 44; refine (within_any _ _ _ _).mono ?_; rintro e w' ⟨rfl, rfl⟩; rw [hn']))
        go_ret2
        exact gives_err B1.out
      | true =>
        have hn' : wth n (-1048576) 1048576 = true := hn
        have hsp := of_decide_eq_true hs
        obtain ⟨A, rfl⟩ := Int.eq_ofNat_of_zero_le hsp.1
        obtain ⟨B, rfl⟩ := Int.eq_ofNat_of_zero_le (show 0 ≤ b by omega)
        have hr : bumpR l A B n = tell (bumpV l A B n) := by simp [bumpR, hf, hs, hn]
        rw [hr]
        have hAB : A < B := by omega
        have hB48 : B ≤ 48 := by omega
        have hF := fine_iff.1 hf
        have hn2 := bdd_iff.1 hn
        obtain ⟨n1, n2⟩ := hn2
        have HR : Hid (∀ f, (∀ i, i < 48 → f i = bumpV l A B n i) → tabA f = tabA (bumpV l A B n)) := fun f h => tabA_congr h
        obtain ⟨v, hv⟩ : ∃ v, v = bumpV l A B n := ⟨_, rfl⟩
        rw [← hv] at HR ⊢
        have HV := hid hv
        clear hv hr hsp
        go_enter Try.func24, Try.ntmps24
        go_wp2_with fail
        refine (RunsFine_any _ _ _ _ l h).mono ?_
        rintro e w1 ⟨rfl, hb⟩
        have B1 := hid (below_of_drawn hb)
        clear hb
        rw [hf]
        go_wp2_with (first | (go_at_call 42; refine (spanOf_any _ _ _).mono ?_; rintro e w' ⟨rfl, rfl⟩; rw [hs]) | (go_at_call 44; refine (within_any _ _ _ _).mono ?_; rintro e w' ⟨rfl, rfl⟩; rw [hn']))
        refine (spread_all _ _ _ _ l (h.later B1.out) hF).mono ?_
        rintro e w2 ⟨rfl, hb⟩
        have B2 := hid (below_from B1.out hb)
        clear hb B1
        go_wp2_with (refine wpList_store_tab rfl (.tmp 10) (.tmp 25) rfl w2.heap.size (vals l) _ rfl rfl (heap_alloc_new w2 _) rfl ?_; intro W3 hT3 hO3 hB3; have HT3 := hid hT3; have HB3 := hid (hB3.trans (Below.refl _ _)); clear hT3 hO3 hB3)
        have hB2 : w.heap.size ≤ w2.heap.size := B2.out.size
        have B3 : Hid (Below w.heap.size w W3) := below_from B2.out (((Below.refl _ _).alloc (Nat.le_refl _) _).trans HB3.out)
        clear HB3 B2
        generalize w2.heap.size = g at *
        go_loopw [11] (fun st wr => ∃ (t : Nat) (f : Nat → Int), st = .int .i64 t ∧ A ≤ t ∧ t ≤ B ∧ Tab wr g f ∧ (∀ i, i < t → f i = v i) ∧ (∀ i, t ≤ i → f i = vals l i) ∧ Below w.heap.size w wr) (fun st _ => 48 - (intOf st).toNat)
        case atStart => exact ⟨A, vals l, rfl, by omega, by omega, HT3.out, fun i hi => by rw [HV.out, bumpV, if_neg (by omega)], fun i _ => rfl, B3.out⟩
        case round =>
          obtain ⟨t, f, rfl, htA, htB, hT, hlo, hhi, hbel⟩ := hrel
          by_cases htl : t < B
          · have htl' : (t : Int) < B := by omega
            have cx := hT.cell (i := t) (by omega)
            have fx := hT.frozen t
            rw [hhi t (Nat.le_refl _)] at cx
            have q1 := bdd_iff.1 (valAt_bdd hF (t : Int) (by omega))
            have q2 : -1048576 ≤ vals l t := q1.1
            have q3 : vals l t ≤ 1048576 := q1.2
            have ht48 : (t : Int) < 48 := by omega
            have HT := hid hT
            have HLO := hid hlo
            have HHI := hid hhi
            have HB := hid hbel
            clear hT hlo hhi hbel q1
            go_wp2
            go_roundw
            case rel => exact ⟨t + 1, upd f t (vals l t + n), by go_num, by omega, by omega, HT.out.set t _, upd_to HLO.out (by rw [HV.out, bumpV, if_pos (by omega)]), fun i hi => by rw [upd, if_neg (by omega)]; exact HHI.out i (by omega), HB.out.setCell (by show w.heap.size ≤ g; omega) _⟩
            case measure => simp [intOf]; omega
          · obtain rfl : t = B := by omega
            have e1 : tabA f = tabA v := HR.out f (fun i hi => by
              by_cases e : i < t
              · exact hlo i e
              · rw [hhi i (by omega), HV.out, bumpV, if_neg (by omega)])
            unfold Tab at hT
            rw [e1] at hT
            have HT := hid hT
            have HB := hid hbel
            clear hT hbel hlo hhi e1
            go_wp2_with (refine wpList_load_row rfl 61 (.tmp 10) rfl g rfl 61 (tabA v) (0, 0) _ HT.out Try.underlying61 rfl (size61 _) ?_)
            refine (told_any _ v).mono ?_
            rintro e w7 ⟨a, n, cap, rfl, hr, hb⟩
            go_wp2
            go_ret2
            exact ⟨a, n, cap, rfl, hr, below_from HB.out hb⟩
end Go.Proofs.Ytdomonpjgldfgaa
