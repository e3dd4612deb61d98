/- Several texts in one: RunsA, RunsB, RunsC, RunsD, RunsN, RunsM. -/
import Derived.Test.YtckpdfkobdgjeaaDoorProg
import Derived.Test.YtckpdfkobdgjeaaDoorKMath
import Derived.WalkKit
import Derived.WalkSpells
import Derived.WalkLawsBesides
import Derived.Deep.QuietTactic
import Derived.BigQuiet
import Derived.Deep.RegionWith
namespace Go.Proofs.YtckpdfkobdgjeaaDoor
open Go.RowKit
theorem ret_bool {a b : Bool} (h : a = b) : Ending.returned (.bool a) = .returned (.bool b) := by rw [h]
theorem ret_int {k : IntKind} {a b : Int} (h : a = b) : Ending.returned (.int k a) = .returned (.int k b) := by rw [h]
theorem bounded_any (n : Int) (w : World) : Calls Tryd.prog 54 #[.int .i64 n] w fun e w' => e = .returned (.bool (bdd n)) ∧ w' = w := by
  go_enter Tryd.func54, Tryd.ntmps54
  go_wp2
  all_goals
    go_ret
    exact ⟨ret_bool (by simp [bdd]; omega), rfl⟩
structure RunsIn (w : World) (a : Option Addr) (n cap : Nat) (l : RunL) : Prop where
  len : n = l.length
  le : n ≤ cap
  bound : n ≤ 9223372036854775807
  capb : cap ≤ 9223372036854775807
  cells : 0 < n → ∃ b off, a = some ⟨b, off, none⟩ ∧ ∀ i, i < n → w.cell? ⟨b, off + i * 2, none⟩ = some (.int .i64 (rAt l i)) ∧ w.cell? ⟨b, off + i * 2 + 1, none⟩ = some (.int .i64 (rN l i))
def chk (l : RunL) : Int := if fine l then 0 else 1
theorem chk_bad {l : RunL} {n : Nat} (hn : Hid (n = l.length)) {j : Nat} (hj : j < n) (h : ¬ okAt l j) : chk l = 1 := by
  have : fine l = false := fine_not.2 fun hf => h (hf.2 j (by have := hn.out; omega))
  simp [chk, this]
theorem chk_good {l : RunL} {n : Nat} (hn : Hid (n = l.length)) (hp : 0 < n) (h : ∀ i, i < n → okAt l i) : chk l = 0 := by
  have : fine l = true := fine_iff.2 ⟨by have := hn.out; omega, fun i hi => h i (by have := hn.out; omega)⟩
  simp [chk, this]
theorem ok_snoc {l : RunL} {j : Nat} (h : Hid (∀ i, i < j → okAt l i)) (hj : okAt l j) : ∀ i, i < j + 1 → okAt l i := by
  intro i hi
  by_cases e : i = j
  · subst e; exact hj
  · exact h.out i (by omega)
set_option maxHeartbeats 400000 in
theorem Check_some (w : World) (b off n cap : Nat) (l : RunL) (h : RunsIn w (some ⟨b, off, none⟩) n cap l) (hp : 0 < n) :
   Calls Tryd.prog 43 #[.slice (some ⟨b, off, none⟩) n cap] w fun e w' => e = .returned (.int .i64 (chk l)) ∧ Below w.heap.size w w' := by
  obtain ⟨hn, hle, hb, hcb, hc⟩ := h
  have HN : Hid (n = l.length) := hn
  clear hn
  obtain ⟨b', off', e, hc⟩ := hc (by omega)
  cases e
  have hc0 := (hc 0 hp).1
  simp only [Nat.zero_mul, Nat.add_zero] at hc0
  have hp' : (0 : Int) < n := by omega
  have hne : ((n : Int) == 0) = false := by simp; omega
  have hlt : b < w.heap.size := block_lt_of_cell hc0
  by_cases h0 : rAt l 0 = 0
  · have h0' : (rAt l 0 != 0) = false := by simp [h0]
    have H0 : Hid (rAt l 0 = 0) := h0
    clear h0
    go_enter Tryd.func43, Tryd.ntmps43
    go_wp2
    go_loopw [17] (fun s wr => ∃ j : Nat, s = .int .i64 j ∧ j ≤ n ∧ (∀ i, i < j → okAt l i) ∧ Below w.heap.size w wr) (fun s _ => n - (intOf s).toNat)
    case atStart => exact ⟨0, rfl, by omega, fun i hi => by omega, Below.refl _ _⟩
    case round =>
      obtain ⟨j, rfl, h1, h2, hbel⟩ := hrel
      have H2 : Hid (∀ i, i < j → okAt l i) := h2
      clear h2
      by_cases hj : j < n
      · have hj' : (j : Int) < n := by omega
        have c0 : wr.cell? ⟨b, off + j * 2, none⟩ = some (.int .i64 (rAt l j)) := (hbel.cell (p := ⟨b, off + j * 2, none⟩) hlt).trans (hc j hj).1
        have c1 : wr.cell? ⟨b, off + j * 2 + 1, none⟩ = some (.int .i64 (rN l j)) := (hbel.cell (p := ⟨b, off + j * 2 + 1, none⟩) hlt).trans (hc j hj).2
        clear hc0
        have hlt' : b < wr.heap.size := Nat.lt_of_lt_of_le hlt hbel.size
        have hbel' : Hid (Below w.heap.size w (wr.alloc (.cells #[.int .i64 (rAt l j), .int .i64 (rN l j)] 47))) := hbel.alloc hbel.size _
        by_cases g1 : 48 ≤ rAt l j
        · go_wp2
          go_ret
          exact ⟨ret_int (chk_bad HN hj (fun h => by have := h.2.1; omega)).symm, hbel'.out⟩
        cases g2 : bdd (rN l j) with
        | false =>
          go_wp2_with (go_at_call 54; refine (bounded_any _ _).mono ?_; rintro e w' ⟨rfl, rfl⟩)
          go_ret
          exact ⟨ret_int (chk_bad HN hj (fun h => by have := h.2.2.1; simp [g2] at this)).symm, hbel'.out⟩
        | true =>
          cases j with
          | zero =>
            have g3 : decide ((0 : Int) < 0) = false := by decide
            simp only [Nat.zero_mul, Nat.add_zero] at c0 c1
            go_wp2_with (go_at_call 54; refine (bounded_any _ _).mono ?_; rintro e w' ⟨rfl, rfl⟩)
            go_quiet (fail)
            go_wp2
            go_roundw
            case rel => exact ⟨1, rfl, by omega, ok_snoc H2 ⟨fun _ => H0.out, by omega, g2, fun h => by omega⟩, below_drewN hbel'.out _⟩
            case measure => simp [intOf]; omega
          | succ k => 
            have g3 : decide ((0 : Int) < ↑k + 1) = true := by simp
            have hk' : (k : Int) < n := by omega
            have hwk : IntKind.i64.wrap (k : Int) = k := by rw [IntKind.wrap_i64]; omega
            have d0 : wr.cell? ⟨b, off + k * 2, none⟩ = some (.int .i64 (rAt l k)) := (hbel.cell (p := ⟨b, off + k * 2, none⟩) hlt).trans (hc k (by omega)).1
            have d1 : wr.cell? ⟨b, off + k * 2 + 1, none⟩ = some (.int .i64 (rN l k)) := (hbel.cell (p := ⟨b, off + k * 2 + 1, none⟩) hlt).trans (hc k (by omega)).2
            by_cases g4 : rAt l (k + 1) ≤ rAt l k
            · have g4' : decide (rAt l (k + 1) ≤ rAt l k) = true := by simpa using g4
              go_wp2_with (go_at_call 54; refine (bounded_any _ _).mono ?_; rintro e w' ⟨rfl, rfl⟩)
              go_quiet (fail)
              go_wp2
              go_ret
              exact ⟨ret_int (chk_bad HN hj (fun h => by have := (h.2.2.2 (by omega)).1; simp only [Nat.add_sub_cancel] at this; omega)).symm, below_drewN hbel'.out _⟩
            · have g4' : decide (rAt l (k + 1) ≤ rAt l k) = false := by simpa using g4
              go_wp2_with (go_at_call 54; refine (bounded_any _ _).mono ?_; rintro e w' ⟨rfl, rfl⟩)
              go_quiet (fail)
              go_wp2
              · have g5 : (rN l (k + 1) == rN l k) = true := by assumption
                go_ret
                exact ⟨ret_int (chk_bad HN hj (fun h => by have := (h.2.2.2 (by omega)).2; simp only [Nat.add_sub_cancel] at this; exact this (eq_of_beq g5))).symm, below_drewN hbel'.out _⟩
              · have g5 : (rN l (k + 1) == rN l k) = false := by assumption
                go_roundw
                case rel => exact ⟨k + 1 + 1, by go_num, by omega, ok_snoc H2 ⟨fun h => by omega, by omega, g2, fun _ => ⟨by simp only [Nat.add_sub_cancel]; omega, by simp only [Nat.add_sub_cancel]; exact ne_of_beq_false g5⟩⟩, below_drewN hbel'.out _⟩
                case measure => simp [intOf]; omega
      · have hj' : ¬ (j : Int) < n := by omega
        obtain rfl : j = n := by omega
        go_wp2
        go_ret
        exact ⟨ret_int (chk_good HN hp H2.out).symm, hbel⟩
  · have h0' : (rAt l 0 != 0) = true := by simp [h0]
    go_enter Tryd.func43, Tryd.ntmps43
    go_wp2
    go_ret
    exact ⟨ret_int (chk_bad HN hp (fun h => h0 (h.1 rfl))).symm, Below.refl _ _⟩
theorem Check_none (w : World) (a : Option Addr) (cap : Nat) :
   Calls Tryd.prog 43 #[.slice a 0 cap] w fun e w' => e = .returned (.int .i64 (chk [])) ∧ w' = w := by
  go_enter Tryd.func43, Tryd.ntmps43
  go_wp2
  go_ret
  exact ⟨ret_int (by rfl), rfl⟩
theorem Check_any (w : World) (a : Option Addr) (n cap : Nat) (l : RunL) (h : RunsIn w a n cap l) :
   Calls Tryd.prog 43 #[.slice a n cap] w fun e w' => e = .returned (.int .i64 (chk l)) ∧ Below w.heap.size w w' := by
  by_cases hp : 0 < n
  · obtain ⟨b, off, rfl, _⟩ := h.cells hp
    exact Check_some w b off n cap l h hp
  · obtain rfl : n = 0 := by omega
    obtain rfl : l = [] := by have := h.len; exact List.eq_nil_of_length_eq_zero this.symm
    refine (Check_none w a cap).mono ?_
    rintro e w' ⟨rfl, rfl⟩
    exact ⟨rfl, Below.refl _ _⟩
theorem fine_bad {l : RunL} {n : Nat} (hn : Hid (n = l.length)) {j : Nat} (hj : j < n) (h : ¬ okAt l j) : fine l = false :=
  fine_not.2 fun hf => h (hf.2 j (by have := hn.out; omega))
theorem fine_good {l : RunL} {n : Nat} (hn : Hid (n = l.length)) (hp : 0 < n) (h : ∀ i, i < n → okAt l i) : fine l = true :=
  fine_iff.2 ⟨by have := hn.out; omega, fun i hi => h i (by have := hn.out; omega)⟩
theorem at_nonneg {l : RunL} {j : Nat} (h : ∀ i, i < j → okAt l i) : ∀ i, i < j → 0 ≤ rAt l i := by
  intro i
  induction i with
  | zero => intro hi; rw [(h 0 hi).1 rfl]; exact Int.le_refl _
  | succ i ih =>
    intro hi
    have h1 := ih (by omega)
    have h2 := ((h (i + 1) hi).2.2.2 (by omega)).1
    simp only [Nat.add_sub_cancel] at h2
    omega
theorem time_bad {l : RunL} {j : Nat} (h : Hid (∀ i, i < j → okAt l i)) (ht : wth (rAt l j) 0 47 = false) : ¬ okAt l j := by
  intro hk
  have h1 := at_nonneg (ok_snoc h hk) j (by omega)
  have h2 := hk.2.1
  simp [wth] at ht
  omega
theorem drawn_more {w wr : World} (h : Hid (∃ d, wr = w.drewN d)) (n : Nat) : ∃ d, wr.drewN n = w.drewN d := by
  obtain ⟨d, rfl⟩ := h.out
  exact ⟨d + n, by rw [World.drewN_drewN]⟩
end Go.Proofs.YtckpdfkobdgjeaaDoor
namespace Go.Proofs.YtckpdfkobdgjeaaDoor
open Go.RowKit
theorem RunsIn.later {w w' : World} {a : Option Addr} {n cap : Nat} {l : RunL} (h : RunsIn w a n cap l) (hb : Below w.heap.size w w') : RunsIn w' a n cap l := by
  refine ⟨h.len, h.le, h.bound, h.capb, fun hp => ?_⟩
  obtain ⟨b, off, ha, hc⟩ := h.cells hp
  exact ⟨b, off, ha, fun i hi => ⟨cell_later hb (hc i hi).1, cell_later hb (hc i hi).2⟩⟩
theorem below_of_drawn {w w' : World} (h : ∃ d, w' = w.drewN d) : Below w.heap.size w w' := by
  obtain ⟨d, rfl⟩ := h; exact below_drewN (Below.refl _ _) d
theorem below_from {w w1 w2 : World} (h1 : Below w.heap.size w w1) (h2 : Below w1.heap.size w1 w2) : Below w.heap.size w w2 := h1.trans (h2.mono h1.size)
def IsLow (v : Nat → Int) (a b : Nat) (n : Int) : Prop := (∀ t, a ≤ t → t < b → n ≤ v t) ∧ ∃ t, a ≤ t ∧ t < b ∧ n = v t
theorem IsLow.eq {v : Nat → Int} {a b : Nat} {n m : Int} (h1 : IsLow v a b n) (h2 : IsLow v a b m) : n = m := by
  obtain ⟨p1, t, t1, t2, t3⟩ := h1
  obtain ⟨q1, s, s1, s2, s3⟩ := h2
  have := p1 s s1 s2
  have := q1 t t1 t2
  omega
def vals (l : RunL) (t : Nat) : Int := valAt l (t : Int)
def Lows (l : RunL) (i m : Nat) (b n : Int) : Prop := n ≤ rN l i ∧ (∀ k, i < k → k < m → rAt l k < b → n ≤ rN l k) ∧ ∃ k, k < l.length ∧ (k = i ∨ (i < k ∧ rAt l k < b)) ∧ n = rN l k
theorem Reached.mono {l : RunL} (hr : Rises l) {s t : Int} {i k : Nat} (h1 : Reached l s i) (h2 : Reached l t k) (h : s ≤ t) : i ≤ k := by
  by_cases e : i ≤ k
  · exact e
  · have := h2.2.2 (by have := h1.1; omega)
    have := hr.le (i := k + 1) (j := i) (by omega) h1.1
    have := h1.2.1
    omega
theorem Lows.skip {l : RunL} {i m : Nat} {b n : Int} (h : Lows l i m b n) (hm : ¬ rAt l m < b) : Lows l i (m + 1) b n :=
  ⟨h.1, fun k h1 h2 h3 => by
    by_cases e : k = m
    · subst e; omega
    · exact h.2.1 k h1 (by omega) h3, h.2.2⟩
theorem Lows.take {l : RunL} {i m : Nat} {b n : Int} (h : Lows l i m b n) (him : i < m) (hl : m < l.length) (hm : rAt l m < b) : Lows l i (m + 1) b (min n (rN l m)) := by
  obtain ⟨h1, h2, k, hk1, hk2, hk3⟩ := h
  refine ⟨by omega, fun k h4 h5 h6 => ?_, ?_⟩
  · by_cases e : k = m
    · subst e; omega
    · have := h2 k h4 (by omega) h6; omega
  · by_cases e : n ≤ rN l m
    · exact ⟨k, hk1, hk2, by omega⟩
    · exact ⟨m, hl, Or.inr ⟨him, hm⟩, by omega⟩
theorem SameRuns_same (w : World) (a1 a2 : Option Addr) (n cap1 cap2 : Nat) (l : RunL) (h1 : RunsIn w a1 n cap1 l) (h2 : RunsIn w a2 n cap2 l) :
   Calls Tryd.prog 25 #[.slice a1 n cap1, .slice a2 n cap2] w fun e w' => e = .returned (.bool true) ∧ ∃ d, w' = w.drewN d := by
  have hle := h1.le
  have hbd := h1.bound
  have hcb := h1.capb
  have hcc : Hid (0 < n → ∃ b1 off1 b2 off2, a1 = some ⟨b1, off1, none⟩ ∧ a2 = some ⟨b2, off2, none⟩ ∧ (∀ i, i < n → w.cell? ⟨b1, off1 + i * 2, none⟩ = some (.int .i64 (rAt l i)) ∧ w.cell? ⟨b1, off1 + i * 2 + 1, none⟩ = some (.int .i64 (rN l i))) ∧ (∀ i, i < n → w.cell? ⟨b2, off2 + i * 2, none⟩ = some (.int .i64 (rAt l i)) ∧ w.cell? ⟨b2, off2 + i * 2 + 1, none⟩ = some (.int .i64 (rN l i)))) := by
    intro hp
    obtain ⟨b1, o1, e1, c1⟩ := h1.cells hp
    obtain ⟨b2, o2, e2, c2⟩ := h2.cells hp
    exact ⟨b1, o1, b2, o2, e1, e2, c1, c2⟩
  clear h1 h2
  have hne : ((n : Int) != n) = false := by simp
  by_cases hp : 0 < n
  · obtain ⟨b1, o1, b2, o2, rfl, rfl, c1, c2⟩ := hcc.out hp
    go_enter Tryd.func25, Tryd.ntmps25
    go_wp2
    go_loopw [5] (fun s wr => ∃ j : Nat, s = .int .i64 j ∧ j ≤ n ∧ ∃ d, wr = w.drewN d) (fun s _ => n - (intOf s).toNat)
    case atStart => exact ⟨0, rfl, by omega, 0, rfl⟩
    case round =>
      obtain ⟨j, rfl, hj1, hd⟩ := hrel
      have HD : Hid (∃ d, wr = w.drewN d) := hd
      have hcr : ∀ a, wr.cell? a = w.cell? a := by obtain ⟨d, rfl⟩ := hd; exact fun a => rfl
      clear hd
      by_cases hj : j < n
      · have hj' : (j : Int) < n := by omega
        have d0 : wr.cell? ⟨b1, o1 + j * 2, none⟩ = some (.int .i64 (rAt l j)) := (hcr _).trans (c1 j hj).1
        have d1 : wr.cell? ⟨b1, o1 + j * 2 + 1, none⟩ = some (.int .i64 (rN l j)) := (hcr _).trans (c1 j hj).2
        have e0 : wr.cell? ⟨b2, o2 + j * 2, none⟩ = some (.int .i64 (rAt l j)) := (hcr _).trans (c2 j hj).1
        have e1 : wr.cell? ⟨b2, o2 + j * 2 + 1, none⟩ = some (.int .i64 (rN l j)) := (hcr _).trans (c2 j hj).2
        clear hcr c1 c2
        go_wp2
        go_quiet (fail)
        go_wp2
        go_roundw
        case rel => exact ⟨j + 1, by go_num, by omega, drawn_more HD _⟩
        case measure => simp [intOf]; omega
      · obtain rfl : j = n := by omega
        clear hcr c1 c2
        go_wp2
        go_ret
        exact ⟨rfl, HD.out⟩
  · obtain rfl : n = 0 := by omega
    go_enter Tryd.func25, Tryd.ntmps25
    go_wp2
    go_loop [5] (fun s => s = .int .i64 0) (fun _ => 0)
    case atStart => rfl
    case round =>
      subst hrel
      go_wp2
      go_ret
      exact ⟨rfl, 0, rfl⟩
end Go.Proofs.YtckpdfkobdgjeaaDoor
namespace Go.Proofs.YtckpdfkobdgjeaaDoor
open Go.RowKit
theorem hid {p : Prop} (h : p) : Hid p := h
def cellsOf : RunL → List Value
  | [] => []
  | r :: l => .int .i64 r.1 :: .int .i64 r.2 :: cellsOf l
theorem cellsOf_app : ∀ (l : RunL) (x : Int × Int), cellsOf (l ++ [x]) = cellsOf l ++ [.int .i64 x.1, .int .i64 x.2]
  | [], x => rfl
  | r :: l, x => by simp [cellsOf, cellsOf_app l x]
theorem cellsOf_even : ∀ (l : RunL) (i : Nat), i < l.length → (cellsOf l)[i * 2]? = some (.int .i64 (rAt l i))
  | [], i, h => by simp at h
  | r :: l, 0, _ => by simp [cellsOf, rAt]
  | r :: l, i + 1, h => by
    have := cellsOf_even l i (by simpa using h)
    rw [show (i + 1) * 2 = i * 2 + 1 + 1 from by omega]
    simpa [cellsOf, rAt] using this
theorem cellsOf_odd : ∀ (l : RunL) (i : Nat), i < l.length → (cellsOf l)[i * 2 + 1]? = some (.int .i64 (rN l i))
  | [], i, h => by simp at h
  | r :: l, 0, _ => by simp [cellsOf, rN]
  | r :: l, i + 1, h => by
    have := cellsOf_odd l i (by simpa using h)
    rw [show (i + 1) * 2 + 1 = i * 2 + 1 + 1 + 1 from by omega]
    simpa [cellsOf, rN] using this
def OwnRuns (w : World) (B : Nat) (v : Value) (l : RunL) : Prop := w.ownsRow B 47 2 v l.length (cellsOf l)
theorem two_one (p q : Int) : ∀ u ∈ [Value.int .i64 p, Value.int .i64 q], u.oneCell' = true := by
  intro u hu
  simp at hu
  rcases hu with rfl | rfl <;> rfl
def JoinsBy (k : Nat) (jn : Int → Int → Int) : Prop :=
  (∀ (args : Array Value) (w : World), (callFunc k args).run Tryd.prog w = .ok (.enter k args) w) ∧
  ∀ (x y : Int) (w : World), bdd x = true → bdd y = true → Calls Tryd.prog k #[.int .i64 x, .int .i64 y] w fun e w' => e = .returned (.int .i64 (jn x y)) ∧ w' = w
def jv (jn : Int → Int → Int) (l1 l2 : RunL) (t : Nat) : Int := jn (vals l1 t) (vals l2 t)
end Go.Proofs.YtckpdfkobdgjeaaDoor
namespace Go.Proofs.YtckpdfkobdgjeaaDoor
open Go.RowKit
def tell (f : Nat → Int) : RunL × Int := if allTo f 48 = true then (foldTo f 48, 0) else ([], 2)
def joinR (jn : Int → Int → Int) (l1 l2 : RunL) : RunL × Int := if (fine l1 && fine l2) = true then tell (jv jn l1 l2) else ([], 1)
def Gives (w w' : World) (e : Ending) (r : RunL × Int) : Prop := ∃ a n cap, e = .returned (.tuple #[.slice a n cap, .int .i64 r.2]) ∧ RunsIn w' a n cap r.1 ∧ Below w.heap.size w w'
theorem JoinsBy.of {k : Nat} {jn : Int → Int → Int} (hf : ∀ (args : Array Value) (w : World), (callFunc k args).run Tryd.prog w = .ok (.enter k args) w)
    (h : ∀ (x y : Int) (w : World), -1048576 ≤ x → x ≤ 1048576 → -1048576 ≤ y → y ≤ 1048576 → Calls Tryd.prog k #[.int .i64 x, .int .i64 y] w fun e w' => e = .returned (.int .i64 (jn x y)) ∧ w' = w) : JoinsBy k jn :=
  ⟨hf, fun x y w hx hy => h x y w (bdd_iff.1 hx).1 (bdd_iff.1 hx).2 (bdd_iff.1 hy).1 (bdd_iff.1 hy).2⟩
theorem Gives.from {w w1 w2 : World} {e : Ending} {r : RunL × Int} (hb : Below w.heap.size w w1) (h : Gives w1 w2 e r) : Gives w w2 e r := by
  obtain ⟨a, n, cap, he, hr, hb2⟩ := h
  exact ⟨a, n, cap, he, hr, below_from hb hb2⟩
end Go.Proofs.YtckpdfkobdgjeaaDoor
namespace Go.Proofs.YtckpdfkobdgjeaaDoor
open Go.RowKit
end Go.Proofs.YtckpdfkobdgjeaaDoor
namespace Go.Proofs.YtckpdfkobdgjeaaDoor
theorem take_next (l : RunL) (c : Nat) (h : c < l.length) : l.take (c + 1) = l.take c ++ [(rAt l c, rN l c)] := by
  have e : (rAt l c, rN l c) = l[c] := by simp [rAt, rN, List.getD, h]
  rw [List.take_succ_eq_append_getElem h, e]
theorem fold_take {l : RunL} (hF : Fine l) : ∀ n, ∃ c, c ≤ l.length ∧ foldTo (vals l) n = l.take c ∧ (∀ i, i < c → rAt l i < n) ∧ (c < l.length → (n : Int) ≤ rAt l c)
  | 0 => ⟨0, Nat.zero_le _, by simp [foldTo], fun i hi => by omega, fun _ => by rw [hF.at0]; exact Int.le_refl _⟩
  | n + 1 => by
    obtain ⟨c, h1, h2, h3, h4⟩ := fold_take hF n
    have hp := hF.1
    by_cases hA : c < l.length ∧ rAt l c = n
    · obtain ⟨g1, g2⟩ := hA
      have R1 : Reached l (n : Int) c := ⟨g1, by omega, fun h => by have := hF.lt h; omega⟩
      have v1 : vals l n = rN l c := (R1.val hF.rises).symm
      have hc : n = 0 ∨ vals l (n - 1) ≠ vals l n := by
        by_cases e : n = 0
        · exact Or.inl e
        · refine Or.inr ?_
          have c1 : 1 ≤ c := by
            by_cases e1 : c = 0
            · subst e1; rw [hF.at0] at g2; omega
            · omega
          have R2 : Reached l ((n - 1 : Nat) : Int) (c - 1) := ⟨by omega, by have := h3 (c - 1) (by omega); omega, fun _ => by rw [show c - 1 + 1 = c from by omega]; omega⟩
          have v2 : vals l (n - 1) = rN l (c - 1) := (R2.val hF.rises).symm
          rw [v1, v2]
          have := hF.ne (i := c - 1) (by omega)
          rw [show c - 1 + 1 = c from by omega] at this
          exact fun q => this q.symm
      refine ⟨c + 1, g1, ?_, fun i hi => ?_, fun h => ?_⟩
      · rw [foldTo, if_pos hc, h2, take_next l c g1, v1, g2]
      · by_cases e : i = c
        · subst e; omega
        · have := h3 i (by omega); omega
      · have := hF.lt h; omega
    · have g : c < l.length → (n : Int) < rAt l c := fun h => by
        have := h4 h
        by_cases e : rAt l c = n
        · exact absurd ⟨h, e⟩ hA
        · omega
      have c1 : 1 ≤ c := by
        by_cases e1 : c = 0
        · subst e1
          have := g hp
          rw [hF.at0] at this
          omega
        · omega
      have n1 : 1 ≤ n := by
        have := h3 0 (by omega)
        rw [hF.at0] at this
        omega
      have R1 : Reached l (n : Int) (c - 1) := ⟨by omega, by have := h3 (c - 1) (by omega); omega, fun h => by rw [show c - 1 + 1 = c from by omega] at h ⊢; exact g h⟩
      have R2 : Reached l ((n - 1 : Nat) : Int) (c - 1) := ⟨by omega, by have := h3 (c - 1) (by omega); omega, fun h => by rw [show c - 1 + 1 = c from by omega] at h ⊢; have := g h; omega⟩
      have v1 : vals l n = rN l (c - 1) := (R1.val hF.rises).symm
      have v2 : vals l (n - 1) = rN l (c - 1) := (R2.val hF.rises).symm
      refine ⟨c, h1, ?_, fun i hi => by have := h3 i hi; omega, fun h => by have := g h; omega⟩
      rw [foldTo, if_neg ?_, h2]
      rintro (e | e)
      · omega
      · exact e (by rw [v1, v2])
theorem fold_self {l : RunL} (hF : Fine l) : foldTo (vals l) 48 = l := by
  obtain ⟨c, h1, h2, h3, h4⟩ := fold_take hF 48
  have : c = l.length := by
    by_cases e : c < l.length
    · have := h4 e; have := hF.below e; omega
    · omega
  rw [h2, this, List.take_length]
theorem joinR_ok {jn : Int → Int → Int} {l1 l2 r : RunL} (h : joinR jn l1 l2 = (r, 0)) : Fine l1 ∧ Fine l2 ∧ allTo (jv jn l1 l2) 48 = true ∧ r = foldTo (jv jn l1 l2) 48 := by
  unfold joinR at h
  cases hf : (fine l1 && fine l2) with
  | false => rw [hf] at h; simp at h
  | true =>
    rw [hf] at h
    rw [Bool.and_eq_true] at hf
    simp only [if_true, tell] at h
    cases ha : allTo (jv jn l1 l2) 48 with
    | false => rw [ha] at h; simp at h
    | true =>
      rw [ha] at h
      simp at h
      exact ⟨fine_iff.1 hf.1, fine_iff.1 hf.2, rfl, h.symm⟩
theorem joinR_val {jn : Int → Int → Int} {l1 l2 r : RunL} (h : joinR jn l1 l2 = (r, 0)) (t : Nat) (ht : t < 48) : vals r t = jn (vals l1 t) (vals l2 t) := by
  obtain ⟨_, _, ha, rfl⟩ := joinR_ok h
  exact foldTo_val _ ha t ht
theorem back {f g x y : RunL} (h1 : joinR (fun x y => x + y) f g = (x, 0)) (h2 : joinR (fun x y => x - y) x g = (y, 0)) : y = f := by
  obtain ⟨hf, _, _, _⟩ := joinR_ok h1
  obtain ⟨_, _, _, rfl⟩ := joinR_ok h2
  rw [← fold_self hf]
  apply foldTo_congr
  intro t ht
  show vals x t - vals g t = vals f t
  rw [joinR_val h1 t ht]
  omega
end Go.Proofs.YtckpdfkobdgjeaaDoor
