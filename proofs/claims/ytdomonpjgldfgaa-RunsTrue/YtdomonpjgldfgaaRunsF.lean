/- Contracts of the reference's told, ValueOf, LeastOf, PlusOf, MinusOf, LesserOf and BumpOf: they answer just what the program's calls answer. -/
import Derived.Test.YtdomonpjgldfgaaRunsE
namespace Go.Proofs.Ytdomonpjgldfgaa
open Go.RowKit

set_option maxHeartbeats 1000000 in
theorem told_any (w : World) (f : Nat → Int) : Calls Try.prog 55 #[.agg (tabA f)] w fun e w' => Gives w w' e (tell f) := by
  go_enter Try.func55, Try.ntmps55
  go_wp2
  obtain ⟨W1, hW1⟩ : ∃ W1, W1 = w.alloc (.cells (tabA f) 61) := ⟨_, rfl⟩
  rw [← hW1]
  have T1 : Hid (Tab W1 w.heap.size f) := by rw [hW1]; exact Tab.new w f
  have HW : Hid (Below w.heap.size w W1) := by rw [hW1]; exact (Below.refl _ _).alloc (Nat.le_refl _) _
  clear hW1
  go_loop [4] (fun st => ∃ t : Nat, st = .int .i64 t ∧ t ≤ 48 ∧ allTo f t = true) (fun st => 48 - (intOf st).toNat)
  case atStart => exact ⟨0, rfl, by omega, rfl⟩
  case round =>
    obtain ⟨t, rfl, ht, hall⟩ := hrel
    have HA := hid hall
    clear hall
    by_cases htl : t < 48
    · have htl' : (t : Int) < 48 := by omega
      have ct := T1.out.cell htl
      obtain ⟨x, hx⟩ : ∃ x, f t = x := ⟨_, rfl⟩
      have HX := hid hx
      rw [hx] at ct
      clear hx
      cases hbx : bdd x with
      | false =>
        have hbx' : wth x (-1048576) 1048576 = false := hbx
        go_wp2_with (go_at_call 44; refine (within_any _ _ _ _).mono ?_; rintro e w' ⟨rfl, rfl⟩; rw [hbx'])
        go_ret2
        have : tell f = ([], 2) := by
          have : allTo f 48 = false := by
            cases hc : allTo f 48 with
            | false => rfl
            | true => have := (allTo_iff _ 48).1 hc t htl; rw [HX.out, hbx] at this; cases this
          simp [tell, this]
        rw [this]
        exact gives_err HW.out
      | true =>
        have hbx' : wth x (-1048576) 1048576 = true := hbx
        go_wp2_with (go_at_call 44; refine (within_any _ _ _ _).mono ?_; rintro e w' ⟨rfl, hw'⟩; rw [hw', hbx'])
        go_round
        case rel => exact ⟨t + 1, by go_num, by omega, by rw [allTo, HA.out, HX.out, hbx]; rfl⟩
        case measure => simp [intOf]; omega
    · obtain rfl : t = 48 := by omega
      have h61 := T1.out
      unfold Tab at h61
      have H61 := hid h61
      clear h61
      go_wp2_with (refine wpList_load_row rfl 61 (.tmp 1) rfl w.heap.size rfl 61 (tabA f) (0, 0) _ H61.out Try.underlying61 rfl (size61 _) ?_)
      refine (folded_any _ f).mono ?_
      rintro e w2 ⟨v, rfl, ho, hb⟩
      obtain ⟨a, cap, rfl, hr, _⟩ := ho.parts (foldTo_len f 48)
      go_wp2
      go_ret2
      have : tell f = (foldTo f 48, 0) := by simp [tell, HA.out]
      rw [this]
      exact ⟨a, _, cap, rfl, hr, below_from HW.out hb⟩

theorem run_index61 (f : Nat → Int) (t : Int) (h0 : 0 ≤ t) (h1 : t < 48) (w : World) : (Instr.index 61 (.agg (tabA f)) (.int .i64 t)).run Try.prog w = .ok (.int .i64 (f t.toNat)) w := by
  have hg := tabA_get f t.toNat (by omega)
  have hu := Try.underlying61
  have h3 := Try.underlying3
  have hs : (sizeOf 3).run Try.prog w = .ok 1 w := by kernel_rfl
  simp only [Instr.index, Sem.run_bind, asIntOf, Sem.run_pure, Result.andThen_ok, run_underlying hu]
  rw [if_pos (by constructor <;> omega)]
  simp only [Sem.run_bind, hs, Result.andThen_ok, part, isAgg, run_underlying h3, Nat.mul_one, hg]
  rfl

theorem wpList_store_tab {ops : Array Oper} {rest : List Oper} {o : Oper} {a : Act} {w : World} {Q : Exit → Act → World → Prop} (hgd : o.guard = none) (x y : Operand) (ho : o.op = .store 61 x y)
    (g : Nat) (f : Nat → Int) (z : Array Value) (hx : a.eval x = .pointer (some ⟨g, 0, none⟩)) (hy : a.eval y = .agg (tabA f)) (hg : w.heap[g]? = some (.cells z 61 (0, 0))) (hz : z.size = 48)
    (h : ∀ W3, Tab W3 g f → (∀ k, k ≠ g → W3.heap[k]? = w.heap[k]?) → Below g w W3 → wpList Try.prog ops Q rest (a.put o.dst undef) W3) : wpList Try.prog ops Q (o :: rest) a w :=
  wpList_store_row hgd 61 x y ho g (tabA f) hx hy 61 z hg (size61 f) (by rw [tabA_size, hz]) (tabA_one f)
    (h _ (setRow_heap w g z _ 61 _ hg) (fun k hk => by simp only [World.setRow, Array.getElem?_modify]; rw [if_neg (by omega)]) (below_setRow (Below.refl _ _) (Nat.le_refl _) _))

theorem spread_all (w : World) (a : Option Addr) (n cap : Nat) (l : RunL) (h : RunsIn w a n cap l) (hF : Fine l) :
   Calls Try.prog 41 #[.slice a n cap] w fun e w' => e = .returned (.agg (tabA (vals l))) ∧ Below w.heap.size w w' := by
  obtain ⟨b, off, rfl, _⟩ := h.cells (by rw [h.len]; exact hF.1)
  exact spread_any w b off n cap l h hF

theorem ValueOf_any (w : World) (a : Option Addr) (n cap : Nat) (l : RunL) (t : Int) (h : RunsIn w a n cap l) :
   Calls Try.prog 11 #[.slice a n cap, .int .i64 t] w fun e w' => e = .returned (.tuple #[.int .i64 (valueR l t).1, .int .i64 (valueR l t).2]) ∧ Below w.heap.size w w' := by
  cases hf : fine l with
  | false =>
    have hv : valueR l t = (0, 1) := by simp [valueR, hf]
    rw [hv]
    go_enter Try.func11, Try.ntmps11
    go_wp2_with (go_at_call 15; refine (RunsFine_any _ a n cap l h).mono ?_; rintro e w' ⟨rfl, hb⟩; rw [hf])
    go_ret2
    exact ⟨rfl, below_of_drawn hb⟩
  | true =>
    cases ht : wth t 0 47 with
    | false =>
      have hv : valueR l t = (0, 3) := by simp [valueR, hf, ht]
      rw [hv]
      go_enter Try.func11, Try.ntmps11
      go_wp2_with fail
      refine (RunsFine_any _ a n cap l h).mono ?_
      rintro e w1 ⟨rfl, hb⟩
      have hb := hid (below_of_drawn hb)
      rw [hf]
      go_wp2_with (go_at_call 40; refine (isTime_any _ _).mono ?_; rintro e w' ⟨rfl, rfl⟩; rw [ht])
      go_ret2
      exact ⟨rfl, hb.out⟩
    | true =>
      have hF := fine_iff.1 hf
      have hv : valueR l t = (valAt l t, 0) := by simp [valueR, hf, ht]
      rw [hv]
      have ht' := of_decide_eq_true ht
      have hix := run_index61 (vals l) t ht'.1 (by omega)
      have hvv : vals l t.toNat = valAt l t := by show valAt l (t.toNat : Int) = _; rw [Int.toNat_of_nonneg ht'.1]
      rw [hvv] at hix
      clear hvv
      go_enter Try.func11, Try.ntmps11
      go_wp2_with fail
      refine (RunsFine_any _ a n cap l h).mono ?_
      rintro e w1 ⟨rfl, hb⟩
      have hb := hid (below_of_drawn hb)
      rw [hf]
      go_wp2_with (go_at_call 40; refine (isTime_any _ _).mono ?_; rintro e w' ⟨rfl, rfl⟩; rw [ht])
      refine (spread_all _ a n cap l (h.later hb.out) hF).mono ?_
      rintro e w2 ⟨rfl, hb2⟩
      go_wp2
      go_ret2
      exact ⟨rfl, below_from hb.out hb2⟩

set_option maxHeartbeats 1000000 in
theorem LeastOf_any (w : World) (a : Option Addr) (n cap : Nat) (l : RunL) (lo hi : Int) (h : RunsIn w a n cap l) :
   Calls Try.prog 12 #[.slice a n cap, .int .i64 lo, .int .i64 hi] w fun e w' => e = .returned (.tuple #[.int .i64 (leastR l lo hi).1, .int .i64 (leastR l lo hi).2]) ∧ Below w.heap.size w w' := by
  cases hf : fine l with
  | false =>
    have hv : leastR l lo hi = (0, 1) := by simp [leastR, hf]
    rw [hv]
    go_enter Try.func12, Try.ntmps12
    go_wp2_with (go_at_call 15; refine (RunsFine_any _ a n cap l h).mono ?_; rintro e w' ⟨rfl, hb⟩; rw [hf])
    go_ret2
    exact ⟨rfl, below_of_drawn hb⟩
  | true =>
    cases ht : spn lo hi with
    | false =>
      have hv : leastR l lo hi = (0, 3) := by simp [leastR, hf, ht]
      rw [hv]
      go_enter Try.func12, Try.ntmps12
      go_wp2_with fail
      refine (RunsFine_any _ a n cap l h).mono ?_
      rintro e w1 ⟨rfl, hb⟩
      have hb := hid (below_of_drawn hb)
      rw [hf]
      go_wp2_with (go_at_call 42; refine (spanOf_any _ _ _).mono ?_; rintro e w' ⟨rfl, rfl⟩; rw [ht])
      go_ret2
      exact ⟨rfl, hb.out⟩
    | true =>
      have hF := fine_iff.1 hf
      have ht' := of_decide_eq_true ht
      obtain ⟨A, rfl⟩ := Int.eq_ofNat_of_zero_le ht'.1
      obtain ⟨B, rfl⟩ := Int.eq_ofNat_of_zero_le (show 0 ≤ hi by omega)
      have hv : leastR l A B = (lowTo (vals l) A (B - A), 0) := by simp [leastR, hf, ht]
      rw [hv]
      have hAB : A < B := by omega
      have hB48 : B ≤ 48 := by omega
      have hA' : (A : Int) < 48 := by omega
      clear ht' hv
      go_enter Try.func12, Try.ntmps12
      go_wp2_with fail
      refine (RunsFine_any _ a n cap l h).mono ?_
      rintro e w1 ⟨rfl, hb⟩
      have hb := hid (below_of_drawn hb)
      rw [hf]
      go_wp2_with (go_at_call 42; refine (spanOf_any _ _ _).mono ?_; rintro e w' ⟨rfl, rfl⟩; rw [ht])
      refine (spread_all _ a n cap l (h.later hb.out) hF).mono ?_
      rintro e w2 ⟨rfl, hb2⟩
      have HB2 := hid (below_from hb.out hb2)
      clear hb2
      have cA := hid hAB
      go_wp2_with (refine wpList_store_tab rfl (.tmp 8) (.tmp 19) rfl w2.heap.size (vals l) _ rfl rfl (heap_alloc_new w2 _) rfl ?_; intro W3 hT3 hO3 hB3; have HT3 := hid hT3; have HB3 := hid (hB3.trans (Below.refl _ _)); have c3 := hT3.cell (i := A) (by omega); have H3 := hid hO3; clear hT3 hO3 hB3)
      have HB4 : Hid (Below w2.heap.size w2 W3) := ((Below.refl _ _).alloc (Nat.le_refl _) _).trans HB3.out
      clear H3 HB3 c3
      go_loop [9, 10] (fun m st => ∃ k : Nat, st = .int .i64 ((A + k : Nat) : Int) ∧ A + k ≤ B ∧ m = .int .i64 (lowTo (vals l) A k)) (fun _ st => 48 - (intOf st).toNat)
      case atStart => exact ⟨0, rfl, by omega, rfl⟩
      case round =>
        obtain ⟨k, rfl, hk, rfl⟩ := hrel
        by_cases hkl : A + k < B
        · have hkl' : ((A + k : Nat) : Int) < (B : Int) := by omega
          have ck := HT3.out.cell (i := A + k) (by omega)
          go_wp2
          go_round
          case rel => exact ⟨k + 1, by go_num, by omega, by rw [lowTo, ← if_min]⟩
          case measure => simp [intOf]; omega
        · obtain rfl : B = A + k := by omega
          go_wp2
          go_ret2
          exact ⟨rfl, below_from HB2.out HB4.out⟩
end Go.Proofs.Ytdomonpjgldfgaa
