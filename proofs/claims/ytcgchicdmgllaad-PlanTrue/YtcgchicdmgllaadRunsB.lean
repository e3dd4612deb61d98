/- Contracts of runs.Value, runs.Least and the reference's SameRuns. -/
import Derived.Test.YtcgchicdmgllaadRunsA
namespace Go.Proofs.Ytcgchicdmgllaad
open Go.RowKit

theorem RunsIn.later {w w' : World} {a : Option Addr} {n cap : Nat} {l : RunL} (h : RunsIn w a n cap l) (hb : Below w.heap.size w w') : RunsIn w' a n cap l := by
  refine ⟨h.len, h.le, h.bound, h.capb, fun hp => ?_⟩
  obtain ⟨b, off, ha, hc⟩ := h.cells hp
  exact ⟨b, off, ha, fun i hi => ⟨cell_later hb (hc i hi).1, cell_later hb (hc i hi).2⟩⟩
theorem below_of_drawn {w w' : World} (h : ∃ d, w' = w.drewN d) : Below w.heap.size w w' := by
  obtain ⟨d, rfl⟩ := h; exact below_drewN (Below.refl _ _) d
theorem below_from {w w1 w2 : World} (h1 : Below w.heap.size w w1) (h2 : Below w1.heap.size w1 w2) : Below w.heap.size w w2 := h1.trans (h2.mono h1.size)

/-- Value's two answers -/
def valueR (l : RunL) (t : Int) : Int × Int := if fine l = true then (if wth t 0 47 = true then (valAt l t, 0) else (0, 3)) else (0, 1)

def lowTo (v : Nat → Int) (a : Nat) : Nat → Int
  | 0 => v a
  | k + 1 => min (lowTo v a k) (v (a + k))
def IsLow (v : Nat → Int) (a b : Nat) (n : Int) : Prop := (∀ t, a ≤ t → t < b → n ≤ v t) ∧ ∃ t, a ≤ t ∧ t < b ∧ n = v t
theorem lowTo_low (v : Nat → Int) (a : Nat) : ∀ k, 0 < k → IsLow v a (a + k) (lowTo v a k)
  | 0, h => by omega
  | 1, _ => ⟨fun t h1 h2 => by obtain rfl : t = a := by omega
                               simp [lowTo], a, by omega, by omega, by simp [lowTo]⟩
  | k + 2, _ => by
    obtain ⟨h1, t, ht1, ht2, ht3⟩ := lowTo_low v a (k + 1) (by omega)
    rw [lowTo]
    refine ⟨fun s hs1 hs2 => ?_, ?_⟩
    · by_cases e : s = a + (k + 1)
      · subst e; omega
      · have := h1 s hs1 (by omega); omega
    · by_cases e : lowTo v a (k + 1) ≤ v (a + (k + 1))
      · exact ⟨t, ht1, by omega, by rw [← ht3]; omega⟩
      · exact ⟨a + (k + 1), by omega, by omega, by omega⟩
theorem IsLow.eq {v : Nat → Int} {a b : Nat} {n m : Int} (h1 : IsLow v a b n) (h2 : IsLow v a b m) : n = m := by
  obtain ⟨p1, t, t1, t2, t3⟩ := h1
  obtain ⟨q1, s, s1, s2, s3⟩ := h2
  have := p1 s s1 s2
  have := q1 t t1 t2
  omega

/-- what the runs say, at times that are whole numbers -/
def vals (l : RunL) (t : Nat) : Int := valAt l (t : Int)

/-- Least's two answers -/
def leastR (l : RunL) (a b : Int) : Int × Int := if fine l = true then (if spn a b = true then (lowTo (vals l) a.toNat (b.toNat - a.toNat), 0) else (0, 3)) else (0, 1)

/-- the least among run i and those behind it, below index m, that begin below b -/
def Lows (l : RunL) (i m : Nat) (b n : Int) : Prop := n ≤ rN l i ∧ (∀ k, i < k → k < m → rAt l k < b → n ≤ rN l k) ∧ ∃ k, k < l.length ∧ (k = i ∨ (i < k ∧ rAt l k < b)) ∧ n = rN l k

theorem Reached.mono {l : RunL} (hr : Rises l) {s t : Int} {i k : Nat} (h1 : Reached l s i) (h2 : Reached l t k) (h : s ≤ t) : i ≤ k := by
  by_cases e : i ≤ k
  · exact e
  · have := h2.2.2 (by have := h1.1; omega)
    have := hr.le (i := k + 1) (j := i) (by omega) h1.1
    have := h1.2.1
    omega

theorem Lows.low {l : RunL} (hF : Fine l) {i : Nat} {a b : Nat} {n : Int} (hab : a < b) (hi : Reached l (a : Int) i) (h : Lows l i l.length b n) : IsLow (vals l) a b n := by
  obtain ⟨h1, h2, k, hk1, hk2, hk3⟩ := h
  refine ⟨fun t ta tb => ?_, ?_⟩
  · obtain ⟨m, hm⟩ := reached_ex hF.rises (t := (t : Int)) (by omega)
    have him := Reached.mono hF.rises hi hm (by omega)
    show n ≤ valAt l t
    rw [← hm.val hF.rises]
    by_cases e : i = m
    · subst e; exact h1
    · exact h2 m (by omega) hm.1 (by have := hm.2.1; omega)
  · rcases hk2 with rfl | ⟨hik, hkb⟩
    · exact ⟨a, by omega, hab, by show n = valAt l a; rw [hk3, hi.val hF.rises]⟩
    · have g1 := hi.2.2 (by omega)
      have g2 := hF.le (i := i + 1) (j := k) (by omega) hk1
      have hR : Reached l (rAt l k) k := ⟨hk1, Int.le_refl _, fun h => hF.lt h⟩
      refine ⟨(rAt l k).toNat, by omega, by omega, ?_⟩
      show n = valAt l ((rAt l k).toNat : Int)
      rw [Int.toNat_of_nonneg (by omega), hk3, hR.val hF.rises]

theorem Lows.start (l : RunL) (i : Nat) (b : Int) (hi : i < l.length) : Lows l i (i + 1) b (rN l i) :=
  ⟨Int.le_refl _, fun k h1 h2 => by omega, i, hi, Or.inl rfl, rfl⟩
theorem Lows.skip {l : RunL} {i m : Nat} {b n : Int} (h : Lows l i m b n) (hm : ¬ rAt l m < b) : Lows l i (m + 1) b n :=
  ⟨h.1, fun k h1 h2 h3 => by
    by_cases e : k = m
    · subst e; omega
    · exact h.2.1 k h1 (by omega) h3, h.2.2⟩
theorem Lows.take {l : RunL} {i m : Nat} {b n : Int} (h : Lows l i m b n) (him : i < m) (hl : m < l.length) (hm : rAt l m < b) : Lows l i (m + 1) b (min n (rN l m)) := by
  obtain ⟨h1, h2, k, hk1, hk2, hk3⟩ := h
  refine ⟨by omega, fun k h4 h5 h6 => ?_, ?_⟩
  · by_cases e : k = m
    · subst e; omega
    · have := h2 k h4 (by omega) h6; omega
  · by_cases e : n ≤ rN l m
    · exact ⟨k, hk1, hk2, by omega⟩
    · exact ⟨m, hl, Or.inr ⟨him, hm⟩, by omega⟩

theorem if_min (x y : Int) : (if y < x then y else x) = min x y := by rw [Int.min_def]; split <;> split <;> omega

set_option maxHeartbeats 400000 in
theorem Least_any (w : World) (a : Option Addr) (n cap : Nat) (l : RunL) (lo hi : Int) (h : RunsIn w a n cap l) :
   Calls Try.prog 11 #[.slice a n cap, .int .i64 lo, .int .i64 hi] w fun e w' => e = .returned (.tuple #[.int .i64 (leastR l lo hi).1, .int .i64 (leastR l lo hi).2]) ∧ Below w.heap.size w w' := by
  cases hf : fine l with
  | false =>
    have hv : leastR l lo hi = (0, 1) := by simp [leastR, hf]
    have hk : chk l = 1 := by simp [chk, hf]
    rw [hv]
    go_enter Try.func11, Try.ntmps11
    go_wp2_with (go_at_call 36; refine (Check_any _ a n cap l h).mono ?_; rintro e w' ⟨rfl, hb⟩; rw [hk])
    go_ret2
    exact ⟨rfl, hb⟩
  | true =>
    have hk : chk l = 0 := by simp [chk, hf]
    cases ht : spn lo hi with
    | false =>
      have hv : leastR l lo hi = (0, 3) := by simp [leastR, hf, ht]
      rw [hv]
      go_enter Try.func11, Try.ntmps11
      go_wp2_with (first | (go_at_call 36; refine (Check_any _ a n cap l h).mono ?_; rintro e w' ⟨rfl, hb⟩; rw [hk]) | (go_at_call 37; refine (span_any _ _ _).mono ?_; rintro e w' ⟨rfl, rfl⟩; rw [ht]))
      go_ret2
      exact ⟨rfl, hb⟩
    | true =>
      have hF := fine_iff.1 hf
      have hv : leastR l lo hi = (lowTo (vals l) lo.toNat (hi.toNat - lo.toNat), 0) := by simp [leastR, hf, ht]
      rw [hv]
      have ht' := ht
      simp [spn] at ht'
      obtain ⟨ht0, ht1, ht2⟩ := ht'
      have hnl := h.len
      have hp : 0 < n := by rw [hnl]; exact hF.1
      obtain ⟨b, off, rfl, hc⟩ := h.cells hp
      have HN : Hid (n = l.length) := hnl
      clear hnl
      have hle := h.le
      have hbd := h.bound
      have hcb := h.capb
      generalize hlow : lowTo (vals l) lo.toNat (hi.toNat - lo.toNat) = low
      have HL : Hid (∀ x i, Reached l lo i → Lows l i n hi x → x = low) := by
        intro x i hr hx
        rw [HN.out] at hx
        have := Lows.low (a := lo.toNat) (b := hi.toNat) hF (by omega) (by rw [Int.toNat_of_nonneg ht0]; exact hr) (by rw [Int.toNat_of_nonneg (by omega)]; exact hx)
        have h2 := lowTo_low (vals l) lo.toNat (hi.toNat - lo.toNat) (by omega)
        rw [show lo.toNat + (hi.toNat - lo.toNat) = hi.toNat from by omega, hlow] at h2
        exact this.eq h2
      clear hlow
      go_enter Try.func11, Try.ntmps11
      go_wp2_with (first | (go_at_call 36; refine (Check_any _ _ n cap l h).mono ?_; rintro e w' ⟨rfl, hb⟩; rw [hk]) | (go_at_call 37; refine (span_any _ _ _).mono ?_; rintro e w' ⟨rfl, rfl⟩; rw [ht]))
      refine (reach_any _ b off n cap l 0 lo (h.later hb) hp).mono ?_
      rintro e w2 ⟨j, rfl, h1, h2, h3, h4, rfl⟩
      have hr : Hid (Reached l lo j) := ⟨by have := HN.out; omega, by
        by_cases e : 0 < j
        · exact h3 e
        · obtain rfl : j = 0 := by omega
          rw [hF.at0]; omega, fun h => h4 (by have := HN.out; omega)⟩
      have hc2 : Hid (∀ i, i < n → w2.cell? ⟨b, off + i * 2, none⟩ = some (.int .i64 (rAt l i)) ∧ w2.cell? ⟨b, off + i * 2 + 1, none⟩ = some (.int .i64 (rN l i))) := fun i hi => ⟨cell_later hb (hc i hi).1, cell_later hb (hc i hi).2⟩
      have hlt : b < w2.heap.size := block_lt_of_cell (hc2.out 0 hp).1
      have cj := (hc2.out j h2).2
      have hj' : (j : Int) < n := by omega
      clear h3 h4 hc
      by_cases hj : cap = j + 1
      · obtain rfl : n = j + 1 := by omega
        subst hj
        go_wp2
        go_loop [10, 35] (fun m s => m = .int .i64 (rN l j) ∧ s = .int .i64 0) (fun _ _ => 0)
        case atStart => exact ⟨rfl, rfl⟩
        case round =>
          obtain ⟨rfl, rfl⟩ := hrel
          go_wp2
          go_ret2
          rw [HL.out _ _ hr.out (Lows.start l j hi (by have := HN.out; omega))]
          exact ⟨rfl, hb⟩
      · go_wp2
        go_loopw [10, 35] (fun m s wr => ∃ (q : Nat) (x : Int), s = .int .i64 q ∧ m = .int .i64 x ∧ q ≤ n - (j + 1) ∧ Lows l j (j + 1 + q) hi x ∧ Below w2.heap.size w2 wr) (fun _ s _ => n - (intOf s).toNat)
        case atStart => exact ⟨0, rN l j, rfl, rfl, by omega, Lows.start l j hi (by have := HN.out; omega), Below.refl _ _⟩
        case round =>
          obtain ⟨q, x, rfl, rfl, hq, hlow, hbel⟩ := hrel
          have HLW : Hid (Lows l j (j + 1 + q) hi x) := hlow
          clear hlow
          by_cases hlt2 : q < n - (j + 1)
          · have hq' : (q : Int) < (n : Int) - (↑j + 1) := by omega
            have c0 : wr.cell? ⟨b, off + (j + 1) * 2 + q * 2, none⟩ = some (.int .i64 (rAt l (j + 1 + q))) := by
              have := cell_later hbel (hc2.out (j + 1 + q) (by omega)).1
              rw [show off + (j + 1) * 2 + q * 2 = off + (j + 1 + q) * 2 from by omega]; exact this
            have c1 : wr.cell? ⟨b, off + (j + 1) * 2 + q * 2 + 1, none⟩ = some (.int .i64 (rN l (j + 1 + q))) := by
              have := cell_later hbel (hc2.out (j + 1 + q) (by omega)).2
              rw [show off + (j + 1) * 2 + q * 2 = off + (j + 1 + q) * 2 from by omega]; exact this
            have hbel' : Hid (Below w2.heap.size w2 (wr.alloc (.cells #[.int .i64 (rAt l (j + 1 + q)), .int .i64 (rN l (j + 1 + q))] 70))) := hbel.alloc hbel.size _
            clear hbel
            go_wp2
            · have hlt3 : rAt l (j + 1 + q) < hi := by assumption
              go_roundw
              case rel => exact ⟨q + 1, _, by go_num, rfl, by omega, by rw [if_min]; exact HLW.out.take (by omega) (by have := HN.out; omega) hlt3, hbel'.out⟩
              case measure => simp [intOf]; omega
            · have hlt3 : hi ≤ rAt l (j + 1 + q) := by assumption
              go_roundw
              case rel => exact ⟨q + 1, _, by go_num, rfl, by omega, HLW.out.skip (by omega), hbel'.out⟩
              case measure => simp [intOf]; omega
          · obtain rfl : q = n - (j + 1) := by omega
            go_wp2
            go_ret2
            have := HLW.out
            rw [show j + 1 + (n - (j + 1)) = n from by omega] at this
            rw [HL.out _ _ hr.out this]
            exact ⟨rfl, below_from hb hbel⟩

theorem SameRuns_same (w : World) (a1 a2 : Option Addr) (n cap1 cap2 : Nat) (l : RunL) (h1 : RunsIn w a1 n cap1 l) (h2 : RunsIn w a2 n cap2 l) :
   Calls Try.prog 53 #[.slice a1 n cap1, .slice a2 n cap2] w fun e w' => e = .returned (.bool true) ∧ ∃ d, w' = w.drewN d := by
  have hle := h1.le
  have hbd := h1.bound
  have hcb := h1.capb
  have hcc : Hid (0 < n → ∃ b1 off1 b2 off2, a1 = some ⟨b1, off1, none⟩ ∧ a2 = some ⟨b2, off2, none⟩ ∧ (∀ i, i < n → w.cell? ⟨b1, off1 + i * 2, none⟩ = some (.int .i64 (rAt l i)) ∧ w.cell? ⟨b1, off1 + i * 2 + 1, none⟩ = some (.int .i64 (rN l i))) ∧ (∀ i, i < n → w.cell? ⟨b2, off2 + i * 2, none⟩ = some (.int .i64 (rAt l i)) ∧ w.cell? ⟨b2, off2 + i * 2 + 1, none⟩ = some (.int .i64 (rN l i)))) := by
    intro hp
    obtain ⟨b1, o1, e1, c1⟩ := h1.cells hp
    obtain ⟨b2, o2, e2, c2⟩ := h2.cells hp
    exact ⟨b1, o1, b2, o2, e1, e2, c1, c2⟩
  clear h1 h2
  have hne : ((n : Int) != n) = false := by simp
  by_cases hp : 0 < n
  · obtain ⟨b1, o1, b2, o2, rfl, rfl, c1, c2⟩ := hcc.out hp
    go_enter Try.func53, Try.ntmps53
    go_wp2
    go_loopw [5] (fun s wr => ∃ j : Nat, s = .int .i64 j ∧ j ≤ n ∧ ∃ d, wr = w.drewN d) (fun s _ => n - (intOf s).toNat)
    case atStart => exact ⟨0, rfl, by omega, 0, rfl⟩
    case round =>
      obtain ⟨j, rfl, hj1, hd⟩ := hrel
      have HD : Hid (∃ d, wr = w.drewN d) := hd
      have hcr : ∀ a, wr.cell? a = w.cell? a := by obtain ⟨d, rfl⟩ := hd; exact fun a => rfl
      clear hd
      by_cases hj : j < n
      · have hj' : (j : Int) < n := by omega
        have d0 : wr.cell? ⟨b1, o1 + j * 2, none⟩ = some (.int .i64 (rAt l j)) := (hcr _).trans (c1 j hj).1
        have d1 : wr.cell? ⟨b1, o1 + j * 2 + 1, none⟩ = some (.int .i64 (rN l j)) := (hcr _).trans (c1 j hj).2
        have e0 : wr.cell? ⟨b2, o2 + j * 2, none⟩ = some (.int .i64 (rAt l j)) := (hcr _).trans (c2 j hj).1
        have e1 : wr.cell? ⟨b2, o2 + j * 2 + 1, none⟩ = some (.int .i64 (rN l j)) := (hcr _).trans (c2 j hj).2
        clear hcr c1 c2
        go_wp2
        go_quiet (fail)
        go_wp2
        go_roundw
        case rel => exact ⟨j + 1, by go_num, by omega, drawn_more HD _⟩
        case measure => simp [intOf]; omega
      · obtain rfl : j = n := by omega
        clear hcr c1 c2
        go_wp2
        go_ret
        exact ⟨rfl, HD.out⟩
  · obtain rfl : n = 0 := by omega
    go_enter Try.func53, Try.ntmps53
    go_wp2
    go_loop [5] (fun s => s = .int .i64 0) (fun _ => 0)
    case atStart => rfl
    case round =>
      subst hrel
      go_wp2
      go_ret
      exact ⟨rfl, 0, rfl⟩
end Go.Proofs.Ytcgchicdmgllaad
