/- Contracts of the reference's has and first, over a table. -/
import Derived.Test.YtlkaamgmjgkpaacRunsF
import Derived.Test.YtlkaamgmjgkpaacPlaceC
namespace Go.Proofs.Ytlkaamgmjgkpaac
open Go.RowKit

/-- as roomy, of a table -/
def roomyV (v : Nat → Int) (u L : Nat) (n : Int) (t : Nat) : Bool := decide (t + L ≤ u) && decide (n ≤ lowTo v t L)
theorem roomyV_iff {v : Nat → Int} {u L t : Nat} {n : Int} (hL : 0 < L) : roomyV v u L n t = true ↔ t + L ≤ u ∧ ∀ s, t ≤ s → s < t + L → n ≤ v s := by
  rw [roomyV, Bool.and_eq_true, decide_eq_true_iff, decide_eq_true_iff]
  obtain ⟨h1, s, h2, h3, h4⟩ := lowTo_low v t L hL
  constructor
  · rintro ⟨g1, g2⟩
    exact ⟨g1, fun s k1 k2 => by have := h1 s k1 k2; omega⟩
  · rintro ⟨g1, g2⟩
    exact ⟨g1, by rw [h4]; exact g2 s h2 h3⟩

set_option maxHeartbeats 1000000 in
theorem has_any (w : World) (v : Nat → Int) (t u L n : Int) (T U S : Nat) (eT : t = T) (eU : u = U) (eL : L = S) (hT : T ≤ 200) (hU : U ≤ 48) (hL : 1 ≤ S) (hL2 : S ≤ 24) :
    Calls Try.prog 83 #[.agg (tabA v), .int .i64 t, .int .i64 u, .int .i64 L, .int .i64 n] w fun e w' => e = .returned (.bool (roomyV v U S n T)) ∧ Below w.heap.size w w' := by
  obtain ⟨A, hA⟩ : ∃ A, roomyV v U S n T = A := ⟨_, rfl⟩
  rw [hA]
  have HA := hid hA
  have ET := hid eT
  have EU := hid eU
  have EL := hid eL
  have b1 : 0 ≤ t := by omega
  have b2 : t ≤ 200 := by omega
  have b3 : 1 ≤ L := by omega
  have b4 : L ≤ 24 := by omega
  clear hA
  by_cases hlt : T + S ≤ U
  · have hlt' : ¬ u < t + L := by omega
    clear eT eU eL
    go_enter Try.func83, Try.ntmps83
    go_wp2_with fail
    obtain ⟨W1, hW1⟩ : ∃ W1, W1 = w.alloc (.cells (tabA v) 69) := ⟨_, rfl⟩
    rw [← hW1]
    have T1 : Hid (Tab W1 w.heap.size v) := by rw [hW1]; exact Tab.new w v
    have HW : Hid (Below w.heap.size w W1) := by rw [hW1]; exact (Below.refl _ _).alloc (Nat.le_refl _) _
    clear hW1
    go_loop [11] (fun st => ∃ i : Nat, st = .int .i64 i ∧ T ≤ i ∧ i ≤ T + S ∧ ∀ s, T ≤ s → s < i → n ≤ v s) (fun st => T + S - (intOf st).toNat)
    case atStart => exact ⟨T, by rw [ET.out], Nat.le_refl _, by omega, fun s h1 h2 => by omega⟩
    case round =>
      obtain ⟨i, rfl, h1, h2, h3⟩ := hrel
      have H3 := hid h3
      clear h3
      by_cases hi : i < T + S
      · have hi' : (i : Int) < t + L := by have := ET.out; have := EL.out; omega
        have hi48 : (i : Int) < 48 := by omega
        have ct := T1.out.cell (i := i) (by omega)
        obtain ⟨x, hx⟩ : ∃ x, v i = x := ⟨_, rfl⟩
        rw [hx] at ct
        have HX := hid hx
        clear hx
        by_cases hxn : x < n
        · have HAA : Hid (false = A) := by
            show false = A
            rw [← HA.out]
            cases hc : roomyV v U S n T with
            | false => rfl
            | true =>
              have := ((roomyV_iff (by omega)).1 hc).2 i h1 hi
              rw [HX.out] at this
              omega
          go_wp2
          go_ret
          exact ⟨ret_bool HAA.out, HW.out⟩
        · go_wp2
          go_round
          case rel => exact ⟨i + 1, by go_num, by omega, by omega, fun s k1 k2 => by
            by_cases e : s = i
            · subst e; rw [HX.out]; omega
            · exact H3.out s k1 (by omega)⟩
          case measure => simp [intOf]; omega
      · have hi' : ¬ (i : Int) < t + L := by have := ET.out; have := EL.out; omega
        have HAA : Hid (true = A) := by
          show true = A
          rw [← HA.out, (roomyV_iff (by omega)).2 ⟨hlt, fun s k1 k2 => H3.out s k1 (by omega)⟩]
        go_wp2
        go_ret
        exact ⟨ret_bool HAA.out, HW.out⟩
  · have hlt' : u < t + L := by omega
    have HAA : Hid (false = A) := by show false = A; rw [← HA.out, roomyV, decide_eq_false hlt, Bool.false_and]
    clear eT eU eL
    go_enter Try.func83, Try.ntmps83
    go_wp2
    go_ret
    exact ⟨ret_bool HAA.out, (Below.refl _ _).alloc (Nat.le_refl _) _⟩

/-- first's two answers -/
def firstV (v : Nat → Int) (F U L : Nat) (n : Int) : Int × Bool := match findFrom (roomyV v U L n) F (U - F) with
  | some t => ((t : Int), true)
  | none => (0, false)
set_option maxHeartbeats 1000000 in
theorem first_any (w : World) (v : Nat → Int) (t u L n : Int) (T U S : Nat) (eT : t = T) (eU : u = U) (eL : L = S) (hT : T ≤ 200) (hU : U ≤ 48) (hL : 1 ≤ S) (hL2 : S ≤ 24) :
    Calls Try.prog 36 #[.agg (tabA v), .int .i64 t, .int .i64 u, .int .i64 L, .int .i64 n] w fun e w' => e = .returned (.tuple #[.int .i64 (firstV v T U S n).1, .bool (firstV v T U S n).2]) ∧ Below w.heap.size w w' := by
  obtain ⟨A, hA⟩ : ∃ A, firstV v T U S n = A := ⟨_, rfl⟩
  rw [hA]
  have HA : Hid (∀ k, findFrom (roomyV v U S n) T (U - T) = findFrom (roomyV v U S n) k (U - k) → (U ≤ k → A = (0, false)) ∧ (k < U → roomyV v U S n k = true → A = ((k : Int), true))) := by
    intro k he
    rw [← hA, firstV, he]
    exact ⟨fun h => by rw [show U - k = 0 from by omega]; rfl, fun h1 h2 => by rw [findFrom_hit (by omega) h2]⟩
  have ET := hid eT
  have EU := hid eU
  have EL := hid eL
  clear hA eT eU eL
  go_enter Try.func36, Try.ntmps36
  go_wp2_with fail
  obtain ⟨W1, hW1⟩ : ∃ W1, W1 = w.alloc (.cells (tabA v) 69) := ⟨_, rfl⟩
  rw [← hW1]
  have T1 : Hid (Tab W1 w.heap.size v) := by rw [hW1]; exact Tab.new w v
  have HW : Hid (Below w.heap.size w W1) := by rw [hW1]; exact (Below.refl _ _).alloc (Nat.le_refl _) _
  clear hW1
  go_loopw [12] (fun st wr => ∃ k : Nat, st = .int .i64 k ∧ k ≤ 200 ∧ findFrom (roomyV v U S n) T (U - T) = findFrom (roomyV v U S n) k (U - k) ∧ Below W1.heap.size W1 wr) (fun st _ => U - (intOf st).toNat)
  case atStart => exact ⟨T, by rw [ET.out], hT, rfl, Below.refl _ _⟩
  case round =>
    obtain ⟨k, rfl, h2, h3, h4⟩ := hrel
    have H3 := hid h3
    have H4 := hid h4
    clear h3 h4
    have HT : Hid (Tab wr w.heap.size v) := T1.out.later H4.out
    by_cases hk : k < U
    · have hk' : (k : Int) < u := by have := EU.out; omega
      go_wp2_with (refine wpList_load_row rfl 69 (.tmp 5) rfl w.heap.size rfl 69 (tabA v) (0, 0) _ HT.out Try.underlying69 rfl (size61 _) ?_)
      refine (has_any wr v k u L n k U S rfl EU.out EL.out h2 hU hL hL2).mono ?_
      rintro e w2 ⟨rfl, hb⟩
      have HB := hid (below_from H4.out hb)
      clear hb
      cases hr : roomyV v U S n k with
      | true =>
        have HAA := hid ((HA.out k H3.out).2 hk hr)
        go_wp2
        go_ret2
        exact ⟨by rw [HAA.out]; rfl, below_from HW.out HB.out⟩
      | false =>
        go_wp2
        go_roundw
        case rel => exact ⟨k + 1, by go_num, by omega, by rw [H3.out, findFrom_miss (by omega) hr]; rfl, HB.out⟩
        case measure => simp [intOf]; omega
    · have hk' : ¬ (k : Int) < u := by have := EU.out; omega
      have HAA := hid ((HA.out k H3.out).1 (by omega))
      go_wp2
      go_ret2
      exact ⟨by rw [HAA.out]; rfl, below_from HW.out H4.out⟩
end Go.Proofs.Ytlkaamgmjgkpaac
