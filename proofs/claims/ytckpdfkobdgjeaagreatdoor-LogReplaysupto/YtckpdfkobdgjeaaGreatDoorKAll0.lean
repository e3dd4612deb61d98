/- Several texts in one: Math, RunsAll. -/
import Derived.Test.YtckpdfkobdgjeaaGreatDoorProg
import Derived.WalkKit
import Derived.WalkSpells
import Derived.WalkLawsBesides
import Derived.Deep.QuietTactic
import Derived.BigQuiet
import Derived.Deep.RegionWith
namespace Go.Proofs.YtckpdfkobdgjeaaGreatDoor
def bdd (n : Int) : Bool := decide (-1048576 ≤ n ∧ n ≤ 1048576)
def wth (n lo hi : Int) : Bool := decide (lo ≤ n ∧ n ≤ hi)
def spn (a b : Int) : Bool := decide (0 ≤ a ∧ a < b ∧ b ≤ 48)
theorem bdd_iff {n : Int} : bdd n = true ↔ -1048576 ≤ n ∧ n ≤ 1048576 := by simp [bdd]
abbrev RunL := List (Int × Int)
def rAt (l : RunL) (i : Nat) : Int := (l.getD i (0, 0)).1
def rN (l : RunL) (i : Nat) : Int := (l.getD i (0, 0)).2
def okAt (l : RunL) (i : Nat) : Prop :=
  (i = 0 → rAt l 0 = 0) ∧ rAt l i < 48 ∧ bdd (rN l i) = true ∧ (0 < i → rAt l (i - 1) < rAt l i ∧ rN l i ≠ rN l (i - 1))
def Fine (l : RunL) : Prop := 0 < l.length ∧ ∀ i, i < l.length → okAt l i
def okB (l : RunL) (i : Nat) : Bool :=
  decide ((i = 0 → rAt l 0 = 0) ∧ rAt l i < 48 ∧ bdd (rN l i) = true ∧ (0 < i → rAt l (i - 1) < rAt l i ∧ rN l i ≠ rN l (i - 1)))
theorem okB_iff {l : RunL} {i : Nat} : okB l i = true ↔ okAt l i := decide_eq_true_iff
def fineTo (l : RunL) : Nat → Bool
  | 0 => true
  | n + 1 => fineTo l n && okB l n
def fine (l : RunL) : Bool := decide (0 < l.length) && fineTo l l.length
theorem fineTo_iff (l : RunL) : ∀ n, fineTo l n = true ↔ ∀ i, i < n → okAt l i
  | 0 => by simp [fineTo]
  | n + 1 => by
    simp only [fineTo, Bool.and_eq_true, okB_iff, fineTo_iff l n]
    constructor
    · rintro ⟨h1, h2⟩ i hi
      by_cases e : i = n
      · subst e; exact h2
      · exact h1 i (by omega)
    · intro h
      exact ⟨fun i hi => h i (by omega), h n (by omega)⟩
theorem fine_iff {l : RunL} : fine l = true ↔ Fine l := by
  simp [fine, Fine, fineTo_iff]
theorem fine_not {l : RunL} : fine l = false ↔ ¬ Fine l := by
  rw [← fine_iff]; simp
theorem Fine.at0 {l : RunL} (h : Fine l) : rAt l 0 = 0 := (h.2 0 h.1).1 rfl
theorem Fine.lt {l : RunL} (h : Fine l) {i : Nat} (hi : i + 1 < l.length) : rAt l i < rAt l (i + 1) := ((h.2 (i + 1) hi).2.2.2 (by omega)).1
theorem Fine.ne {l : RunL} (h : Fine l) {i : Nat} (hi : i + 1 < l.length) : rN l (i + 1) ≠ rN l i := ((h.2 (i + 1) hi).2.2.2 (by omega)).2
theorem Fine.le {l : RunL} (h : Fine l) {j : Nat} : ∀ {i : Nat}, i ≤ j → j < l.length → rAt l i ≤ rAt l j := by
  induction j with
  | zero => intro i hi _; have : i = 0 := by omega
            subst this; exact Int.le_refl _
  | succ j ih =>
    intro i hi hj
    by_cases e : i = j + 1
    · subst e; exact Int.le_refl _
    · have := ih (i := i) (by omega) (by omega); have := h.lt hj; omega
theorem Fine.below {l : RunL} (h : Fine l) {i : Nat} (hi : i < l.length) : rAt l i < 48 := (h.2 i hi).2.1
theorem Fine.bdd {l : RunL} (h : Fine l) {i : Nat} (hi : i < l.length) : bdd (rN l i) = true := (h.2 i hi).2.2.1
theorem Fine.idx {l : RunL} (h : Fine l) : ∀ {i : Nat}, i < l.length → (i : Int) ≤ rAt l i := by
  intro i
  induction i with
  | zero => intro _; rw [h.at0]; simp
  | succ i ih => intro hi; have := ih (by omega); have := h.lt hi; omega
theorem Fine.short {l : RunL} (h : Fine l) : l.length ≤ 48 := by
  have h0 := h.1
  have h1 := h.idx (i := l.length - 1) (by omega)
  have h2 := h.below (i := l.length - 1) (by omega)
  omega
def Rises (l : RunL) : Prop := 0 < l.length ∧ rAt l 0 = 0 ∧ ∀ i, i + 1 < l.length → rAt l i ≤ rAt l (i + 1)
theorem Fine.rises {l : RunL} (h : Fine l) : Rises l := ⟨h.1, h.at0, fun i hi => by have := h.lt hi; omega⟩
theorem Rises.le {l : RunL} (h : Rises l) {j : Nat} : ∀ {i : Nat}, i ≤ j → j < l.length → rAt l i ≤ rAt l j := by
  induction j with
  | zero => intro i hi _; have : i = 0 := by omega
            subst this; exact Int.le_refl _
  | succ j ih =>
    intro i hi hj
    by_cases e : i = j + 1
    · subst e; exact Int.le_refl _
    · have := ih (i := i) (by omega) (by omega); have := h.2.2 j hj; omega
def Reached (l : RunL) (t : Int) (j : Nat) : Prop := j < l.length ∧ rAt l j ≤ t ∧ (j + 1 < l.length → t < rAt l (j + 1))
def lastTo (l : RunL) (t : Int) : Nat → Nat
  | 0 => 0
  | n + 1 => if rAt l (n + 1) ≤ t then n + 1 else lastTo l t n
def valAt (l : RunL) (t : Int) : Int := rN l (lastTo l t (l.length - 1))
theorem Reached.last {l : RunL} {t : Int} {j : Nat} (hr : Rises l) (h : Reached l t j) : ∀ n, j ≤ n → n < l.length → lastTo l t n = j
  | 0, hn, _ => by simp [lastTo]; omega
  | n + 1, hn, hl => by
    unfold lastTo
    by_cases e : j = n + 1
    · subst e; rw [if_pos h.2.1]
    · have h1 := h.2.2 (by omega)
      have h2 := hr.le (i := j + 1) (j := n + 1) (by omega) hl
      rw [if_neg (by omega)]
      exact Reached.last hr h n (by omega) (by omega)
theorem Reached.val {l : RunL} {t : Int} {j : Nat} (hr : Rises l) (h : Reached l t j) : rN l j = valAt l t := by
  unfold valAt
  rw [h.last hr (l.length - 1) (by have := h.1; omega) (by have := h.1; omega)]
theorem reached_ex {l : RunL} (hr : Rises l) {t : Int} (ht : 0 ≤ t) : ∃ j, Reached l t j := by
  have : ∀ n, n < l.length → (n + 1 < l.length → t < rAt l (n + 1)) → ∃ j, Reached l t j := by
    intro n
    induction n with
    | zero => intro h1 h2; exact ⟨0, h1, by rw [hr.2.1]; exact ht, h2⟩
    | succ n ih =>
      intro h1 h2
      by_cases e : rAt l (n + 1) ≤ t
      · exact ⟨n + 1, h1, e, h2⟩
      · exact ih (by omega) (fun _ => by omega)
  exact this (l.length - 1) (by have := hr.1; omega) (fun h => by omega)
theorem valAt_bdd {l : RunL} (h : Fine l) (t : Int) (ht : 0 ≤ t) : bdd (valAt l t) = true := by
  obtain ⟨j, hj⟩ := reached_ex h.rises ht
  rw [← hj.val h.rises]; exact h.bdd hj.1
def foldTo (v : Nat → Int) : Nat → RunL
  | 0 => []
  | t + 1 => if t = 0 ∨ v (t - 1) ≠ v t then foldTo v t ++ [((t : Int), v t)] else foldTo v t
def allTo (v : Nat → Int) : Nat → Bool
  | 0 => true
  | t + 1 => allTo v t && bdd (v t)
theorem allTo_iff (v : Nat → Int) : ∀ n, allTo v n = true ↔ ∀ i, i < n → bdd (v i) = true
  | 0 => by simp [allTo]
  | n + 1 => by
    simp only [allTo, Bool.and_eq_true, allTo_iff v n]
    constructor
    · rintro ⟨h1, h2⟩ i hi
      by_cases e : i = n
      · subst e; exact h2
      · exact h1 i (by omega)
    · intro h
      exact ⟨fun i hi => h i (by omega), h n (by omega)⟩
theorem allTo_mono {v : Nat → Int} {a b : Nat} (h : allTo v b = true) (hab : a ≤ b) : allTo v a = true := by
  rw [allTo_iff] at *; exact fun i hi => h i (by omega)
theorem rAt_app (l : RunL) (x : Int × Int) (i : Nat) (h : i < l.length) : rAt (l ++ [x]) i = rAt l i := by
  simp [rAt, List.getD, List.getElem?_append_left h]
theorem rN_app (l : RunL) (x : Int × Int) (i : Nat) (h : i < l.length) : rN (l ++ [x]) i = rN l i := by
  simp [rN, List.getD, List.getElem?_append_left h]
theorem rAt_end (l : RunL) (x : Int × Int) : rAt (l ++ [x]) l.length = x.1 := by simp [rAt, List.getD]
theorem rN_end (l : RunL) (x : Int × Int) : rN (l ++ [x]) l.length = x.2 := by simp [rN, List.getD]
theorem foldTo_ok (v : Nat → Int) : ∀ n, 0 < n → 0 < (foldTo v n).length ∧ rN (foldTo v n) ((foldTo v n).length - 1) = v (n - 1) ∧ rAt (foldTo v n) ((foldTo v n).length - 1) < n ∧ (foldTo v n).length ≤ n
  | 0, h => by omega
  | 1, _ => by simp [foldTo, rN, rAt]
  | n + 2, _ => by
    obtain ⟨h1, h2, h3, h4⟩ := foldTo_ok v (n + 1) (by omega)
    unfold foldTo
    by_cases e : (n + 1 = 0 ∨ v (n + 1 - 1) ≠ v (n + 1))
    · rw [if_pos e]
      have hl : (foldTo v (n + 1) ++ [((((n + 1 : Nat)) : Int), v (n + 1))]).length - 1 = (foldTo v (n + 1)).length := by simp
      rw [hl, rN_end, rAt_end]
      refine ⟨by simp, by simp, by simp only []; omega, by simp; omega⟩
    · rw [if_neg e]
      have e2 : v n = v (n + 1) := by
        by_cases e3 : v n = v (n + 1)
        · exact e3
        · exact absurd (Or.inr (by simpa using e3)) e
      refine ⟨h1, ?_, by omega, by omega⟩
      rw [h2]; simpa using e2
theorem foldTo_fine (v : Nat → Int) (n : Nat) (hn : 0 < n) (h48 : n ≤ 48) (hb : allTo v n = true) : Fine (foldTo v n) := by
  refine ⟨(foldTo_ok v n hn).1, ?_⟩
  induction n with
  | zero => omega
  | succ n ih =>
    intro i hi
    by_cases h0 : n = 0
    · subst h0
      have hb0 : bdd (v 0) = true := (allTo_iff v 1).1 hb 0 (by omega)
      simp [foldTo] at hi ⊢
      subst hi
      simp [okAt, rAt, rN, hb0]
    · have ih' := ih (by omega) (by omega) (allTo_mono hb (by omega))
      obtain ⟨h1, h2, h3, h4⟩ := foldTo_ok v n (by omega)
      have hbn : bdd (v n) = true := (allTo_iff v (n + 1)).1 hb n (by omega)
      unfold foldTo at hi ⊢
      by_cases e : (n = 0 ∨ v (n - 1) ≠ v n)
      · rw [if_pos e] at hi ⊢
        by_cases hl : i < (foldTo v n).length
        · obtain ⟨g1, g2, g3, g4⟩ := ih' i hl
          unfold okAt
          rw [rAt_app _ _ _ hl, rN_app _ _ _ hl, rAt_app _ _ _ h1]
          refine ⟨g1, g2, g3, fun hp => ?_⟩
          rw [rAt_app _ _ _ (by omega), rN_app _ _ _ (by omega)]
          exact g4 hp
        · have : i = (foldTo v n).length := by simp at hi; omega
          subst this
          unfold okAt
          rw [rAt_end, rN_end]
          refine ⟨by omega, by simp only []; omega, hbn, fun hp => ?_⟩
          rw [rAt_app _ _ _ (by omega), rN_app _ _ _ (by omega), h2]
          refine ⟨by simp only []; omega, ?_⟩
          rcases e with e | e
          · omega
          · exact fun q => e q.symm
      · rw [if_neg e] at hi ⊢
        exact ih' i hi
theorem foldTo_reached (v : Nat → Int) (n : Nat) (hn : 0 < n) : ∀ t, t < n → ∃ j, Reached (foldTo v n) (t : Int) j ∧ rN (foldTo v n) j = v t := by
  induction n with
  | zero => omega
  | succ n ih =>
    intro t ht
    by_cases h0 : n = 0
    · subst h0
      have : t = 0 := by omega
      subst this
      exact ⟨0, by simp [Reached, foldTo, rAt], by simp [foldTo, rN]⟩
    · obtain ⟨h1, h2, h3, h4⟩ := foldTo_ok v n (by omega)
      unfold foldTo
      by_cases e : (n = 0 ∨ v (n - 1) ≠ v n)
      · rw [if_pos e]
        by_cases et : t = n
        · subst et
          refine ⟨(foldTo v t).length, ⟨by simp, by rw [rAt_end]; exact Int.le_refl _, fun h => by simp at h⟩, by rw [rN_end]⟩
        · obtain ⟨j, hj, hv⟩ := ih (by omega) t (by omega)
          refine ⟨j, ⟨by simp; have := hj.1; omega, by rw [rAt_app _ _ _ hj.1]; exact hj.2.1, fun h => ?_⟩, by rw [rN_app _ _ _ hj.1]; exact hv⟩
          by_cases hl : j + 1 < (foldTo v n).length
          · rw [rAt_app _ _ _ hl]; exact hj.2.2 hl
          · have : j + 1 = (foldTo v n).length := by have := hj.1; omega
            rw [this, rAt_end]; simp only []; omega
      · rw [if_neg e]
        have e2 : v (n - 1) = v n := by
          by_cases e3 : v (n - 1) = v n
          · exact e3
          · exact absurd (Or.inr e3) e
        by_cases et : t = n
        · subst et
          exact ⟨(foldTo v t).length - 1, ⟨by omega, by omega, fun h => by omega⟩, by rw [h2, e2]⟩
        · exact ih (by omega) t (by omega)
theorem foldTo_val (v : Nat → Int) (hb : allTo v 48 = true) (t : Nat) (ht : t < 48) : valAt (foldTo v 48) t = v t := by
  obtain ⟨j, hj, hv⟩ := foldTo_reached v 48 (by omega) t ht
  rw [← hv, ← hj.val (foldTo_fine v 48 (by omega) (by omega) hb).rises]
theorem foldTo_congr {v u : Nat → Int} : ∀ n, (∀ t, t < n → v t = u t) → foldTo v n = foldTo u n
  | 0, _ => rfl
  | n + 1, h => by
    unfold foldTo
    rw [foldTo_congr n (fun t ht => h t (by omega)), h n (by omega)]
    by_cases e : n = 0
    · simp [e]
    · rw [h (n - 1) (by omega)]
theorem allTo_congr {v u : Nat → Int} : ∀ n, (∀ t, t < n → v t = u t) → allTo v n = allTo u n
  | 0, _ => rfl
  | n + 1, h => by unfold allTo; rw [allTo_congr n (fun t ht => h t (by omega)), h n (by omega)]
end Go.Proofs.YtckpdfkobdgjeaaGreatDoor
namespace Go.Proofs.YtckpdfkobdgjeaaGreatDoor
open Go.RowKit
theorem ret_bool {a b : Bool} (h : a = b) : Ending.returned (.bool a) = .returned (.bool b) := by rw [h]
theorem ret_int {k : IntKind} {a b : Int} (h : a = b) : Ending.returned (.int k a) = .returned (.int k b) := by rw [h]
theorem bounded_any (n : Int) (w : World) : Calls Tryz.prog 152 #[.int .i64 n] w fun e w' => e = .returned (.bool (bdd n)) ∧ w' = w := by
  go_enter Tryz.func152, Tryz.ntmps152
  go_wp2
  all_goals
    go_ret
    exact ⟨ret_bool (by simp [bdd]; omega), rfl⟩
theorem span_any (a b : Int) (w : World) : Calls Tryz.prog 164 #[.int .i64 a, .int .i64 b] w fun e w' => e = .returned (.bool (spn a b)) ∧ w' = w := by
  go_enter Tryz.func164, Tryz.ntmps164
  go_wp2
  all_goals
    go_ret
    refine ⟨ret_bool ?_, rfl⟩
    simp only [spn]
    rw [Bool.eq_iff_iff]
    simp
    try omega
structure RunsIn (w : World) (a : Option Addr) (n cap : Nat) (l : RunL) : Prop where
  len : n = l.length
  le : n ≤ cap
  bound : n ≤ 9223372036854775807
  capb : cap ≤ 9223372036854775807
  cells : 0 < n → ∃ b off, a = some ⟨b, off, none⟩ ∧ ∀ i, i < n → w.cell? ⟨b, off + i * 2, none⟩ = some (.int .i64 (rAt l i)) ∧ w.cell? ⟨b, off + i * 2 + 1, none⟩ = some (.int .i64 (rN l i))
def chk (l : RunL) : Int := if fine l then 0 else 1
theorem reach_any (w : World) (b off n cap : Nat) (l : RunL) (i : Nat) (t : Int) (h : RunsIn w (some ⟨b, off, none⟩) n cap l) (hi : i < n) :
   Calls Tryz.prog 171 #[.slice (some ⟨b, off, none⟩) n cap, .int .i64 i, .int .i64 t] w fun e w' => ∃ j : Nat, e = .returned (.int .i64 j) ∧ i ≤ j ∧ j < n ∧ (i < j → rAt l j ≤ t) ∧ (j + 1 < n → t < rAt l (j + 1)) ∧ w' = w := by
  obtain ⟨hn, hle, hb, hcb, hc⟩ := h
  obtain ⟨b', off', e, hc⟩ := hc (by omega)
  cases e
  go_enter Tryz.func171, Tryz.ntmps171
  go_wp2
  go_loop [1] (fun s => ∃ j : Nat, s = .int .i64 j ∧ i ≤ j ∧ j < n ∧ (i < j → rAt l j ≤ t)) (fun s => n - (intOf s).toNat)
  case atStart => exact ⟨i, rfl, Nat.le_refl _, hi, fun h => by omega⟩
  case round =>
    obtain ⟨j, rfl, h1, h2, h3⟩ := hrel
    by_cases hj : j + 1 < n
    · have hcell := (hc (j + 1) hj).1
      have hj' : (j : Int) + 1 < n := by omega
      clear hc hn
      go_wp2
      · have hle : rAt l (j + 1) ≤ t := by assumption
        go_round
        case rel => exact ⟨j + 1, by go_num, by omega, hj, fun _ => hle⟩
        case measure => simp [intOf]; omega
      · have hgt : t < rAt l (j + 1) := by assumption
        go_ret
        exact ⟨j, rfl, h1, h2, h3, fun _ => hgt, rfl⟩
    · have hj' : ¬ (j : Int) + 1 < n := by omega
      clear hc hn
      go_wp2
      go_ret
      exact ⟨j, rfl, h1, h2, h3, fun h => absurd h hj, rfl⟩
theorem chk_bad {l : RunL} {n : Nat} (hn : Hid (n = l.length)) {j : Nat} (hj : j < n) (h : ¬ okAt l j) : chk l = 1 := by
  have : fine l = false := fine_not.2 fun hf => h (hf.2 j (by have := hn.out; omega))
  simp [chk, this]
theorem chk_good {l : RunL} {n : Nat} (hn : Hid (n = l.length)) (hp : 0 < n) (h : ∀ i, i < n → okAt l i) : chk l = 0 := by
  have : fine l = true := fine_iff.2 ⟨by have := hn.out; omega, fun i hi => h i (by have := hn.out; omega)⟩
  simp [chk, this]
theorem ok_snoc {l : RunL} {j : Nat} (h : Hid (∀ i, i < j → okAt l i)) (hj : okAt l j) : ∀ i, i < j + 1 → okAt l i := by
  intro i hi
  by_cases e : i = j
  · subst e; exact hj
  · exact h.out i (by omega)
set_option maxHeartbeats 400000 in
theorem Check_some (w : World) (b off n cap : Nat) (l : RunL) (h : RunsIn w (some ⟨b, off, none⟩) n cap l) (hp : 0 < n) :
   Calls Tryz.prog 100 #[.slice (some ⟨b, off, none⟩) n cap] w fun e w' => e = .returned (.int .i64 (chk l)) ∧ Below w.heap.size w w' := by
  obtain ⟨hn, hle, hb, hcb, hc⟩ := h
  have HN : Hid (n = l.length) := hn
  clear hn
  obtain ⟨b', off', e, hc⟩ := hc (by omega)
  cases e
  have hc0 := (hc 0 hp).1
  simp only [Nat.zero_mul, Nat.add_zero] at hc0
  have hp' : (0 : Int) < n := by omega
  have hne : ((n : Int) == 0) = false := by simp; omega
  have hlt : b < w.heap.size := block_lt_of_cell hc0
  by_cases h0 : rAt l 0 = 0
  · have h0' : (rAt l 0 != 0) = false := by simp [h0]
    have H0 : Hid (rAt l 0 = 0) := h0
    clear h0
    go_enter Tryz.func100, Tryz.ntmps100
    go_wp2
    go_loopw [17] (fun s wr => ∃ j : Nat, s = .int .i64 j ∧ j ≤ n ∧ (∀ i, i < j → okAt l i) ∧ Below w.heap.size w wr) (fun s _ => n - (intOf s).toNat)
    case atStart => exact ⟨0, rfl, by omega, fun i hi => by omega, Below.refl _ _⟩
    case round =>
      obtain ⟨j, rfl, h1, h2, hbel⟩ := hrel
      have H2 : Hid (∀ i, i < j → okAt l i) := h2
      clear h2
      by_cases hj : j < n
      · have hj' : (j : Int) < n := by omega
        have c0 : wr.cell? ⟨b, off + j * 2, none⟩ = some (.int .i64 (rAt l j)) := (hbel.cell (p := ⟨b, off + j * 2, none⟩) hlt).trans (hc j hj).1
        have c1 : wr.cell? ⟨b, off + j * 2 + 1, none⟩ = some (.int .i64 (rN l j)) := (hbel.cell (p := ⟨b, off + j * 2 + 1, none⟩) hlt).trans (hc j hj).2
        clear hc0
        have hlt' : b < wr.heap.size := Nat.lt_of_lt_of_le hlt hbel.size
        have hbel' : Hid (Below w.heap.size w (wr.alloc (.cells #[.int .i64 (rAt l j), .int .i64 (rN l j)] 55))) := hbel.alloc hbel.size _
        by_cases g1 : 48 ≤ rAt l j
        · go_wp2
          go_ret
          exact ⟨ret_int (chk_bad HN hj (fun h => by have := h.2.1; omega)).symm, hbel'.out⟩
        cases g2 : bdd (rN l j) with
        | false =>
          go_wp2_with (go_at_call 152; refine (bounded_any _ _).mono ?_; rintro e w' ⟨rfl, rfl⟩)
          go_ret
          exact ⟨ret_int (chk_bad HN hj (fun h => by have := h.2.2.1; simp [g2] at this)).symm, hbel'.out⟩
        | true =>
          cases j with
          | zero =>
            have g3 : decide ((0 : Int) < 0) = false := by decide
            simp only [Nat.zero_mul, Nat.add_zero] at c0 c1
            go_wp2_with (go_at_call 152; refine (bounded_any _ _).mono ?_; rintro e w' ⟨rfl, rfl⟩)
            go_quiet (fail)
            go_wp2
            go_roundw
            case rel => exact ⟨1, rfl, by omega, ok_snoc H2 ⟨fun _ => H0.out, by omega, g2, fun h => by omega⟩, below_drewN hbel'.out _⟩
            case measure => simp [intOf]; omega
          | succ k => 
            have g3 : decide ((0 : Int) < ↑k + 1) = true := by simp
            have hk' : (k : Int) < n := by omega
            have hwk : IntKind.i64.wrap (k : Int) = k := by rw [IntKind.wrap_i64]; omega
            have d0 : wr.cell? ⟨b, off + k * 2, none⟩ = some (.int .i64 (rAt l k)) := (hbel.cell (p := ⟨b, off + k * 2, none⟩) hlt).trans (hc k (by omega)).1
            have d1 : wr.cell? ⟨b, off + k * 2 + 1, none⟩ = some (.int .i64 (rN l k)) := (hbel.cell (p := ⟨b, off + k * 2 + 1, none⟩) hlt).trans (hc k (by omega)).2
            by_cases g4 : rAt l (k + 1) ≤ rAt l k
            · have g4' : decide (rAt l (k + 1) ≤ rAt l k) = true := by simpa using g4
              go_wp2_with (go_at_call 152; refine (bounded_any _ _).mono ?_; rintro e w' ⟨rfl, rfl⟩)
              go_quiet (fail)
              go_wp2
              go_ret
              exact ⟨ret_int (chk_bad HN hj (fun h => by have := (h.2.2.2 (by omega)).1; simp only [Nat.add_sub_cancel] at this; omega)).symm, below_drewN hbel'.out _⟩
            · have g4' : decide (rAt l (k + 1) ≤ rAt l k) = false := by simpa using g4
              go_wp2_with (go_at_call 152; refine (bounded_any _ _).mono ?_; rintro e w' ⟨rfl, rfl⟩)
              go_quiet (fail)
              go_wp2
              · have g5 : (rN l (k + 1) == rN l k) = true := by assumption
                go_ret
                exact ⟨ret_int (chk_bad HN hj (fun h => by have := (h.2.2.2 (by omega)).2; simp only [Nat.add_sub_cancel] at this; exact this (eq_of_beq g5))).symm, below_drewN hbel'.out _⟩
              · have g5 : (rN l (k + 1) == rN l k) = false := by assumption
                go_roundw
                case rel => exact ⟨k + 1 + 1, by go_num, by omega, ok_snoc H2 ⟨fun h => by omega, by omega, g2, fun _ => ⟨by simp only [Nat.add_sub_cancel]; omega, by simp only [Nat.add_sub_cancel]; exact ne_of_beq_false g5⟩⟩, below_drewN hbel'.out _⟩
                case measure => simp [intOf]; omega
      · have hj' : ¬ (j : Int) < n := by omega
        obtain rfl : j = n := by omega
        go_wp2
        go_ret
        exact ⟨ret_int (chk_good HN hp H2.out).symm, hbel⟩
  · have h0' : (rAt l 0 != 0) = true := by simp [h0]
    go_enter Tryz.func100, Tryz.ntmps100
    go_wp2
    go_ret
    exact ⟨ret_int (chk_bad HN hp (fun h => h0 (h.1 rfl))).symm, Below.refl _ _⟩
theorem Check_none (w : World) (a : Option Addr) (cap : Nat) :
   Calls Tryz.prog 100 #[.slice a 0 cap] w fun e w' => e = .returned (.int .i64 (chk [])) ∧ w' = w := by
  go_enter Tryz.func100, Tryz.ntmps100
  go_wp2
  go_ret
  exact ⟨ret_int (by rfl), rfl⟩
theorem Check_any (w : World) (a : Option Addr) (n cap : Nat) (l : RunL) (h : RunsIn w a n cap l) :
   Calls Tryz.prog 100 #[.slice a n cap] w fun e w' => e = .returned (.int .i64 (chk l)) ∧ Below w.heap.size w w' := by
  by_cases hp : 0 < n
  · obtain ⟨b, off, rfl, _⟩ := h.cells hp
    exact Check_some w b off n cap l h hp
  · obtain rfl : n = 0 := by omega
    obtain rfl : l = [] := by have := h.len; exact List.eq_nil_of_length_eq_zero this.symm
    refine (Check_none w a cap).mono ?_
    rintro e w' ⟨rfl, rfl⟩
    exact ⟨rfl, Below.refl _ _⟩
theorem drawn_more {w wr : World} (h : Hid (∃ d, wr = w.drewN d)) (n : Nat) : ∃ d, wr.drewN n = w.drewN d := by
  obtain ⟨d, rfl⟩ := h.out
  exact ⟨d + n, by rw [World.drewN_drewN]⟩
end Go.Proofs.YtckpdfkobdgjeaaGreatDoor
namespace Go.Proofs.YtckpdfkobdgjeaaGreatDoor
open Go.RowKit
theorem RunsIn.later {w w' : World} {a : Option Addr} {n cap : Nat} {l : RunL} (h : RunsIn w a n cap l) (hb : Below w.heap.size w w') : RunsIn w' a n cap l := by
  refine ⟨h.len, h.le, h.bound, h.capb, fun hp => ?_⟩
  obtain ⟨b, off, ha, hc⟩ := h.cells hp
  exact ⟨b, off, ha, fun i hi => ⟨cell_later hb (hc i hi).1, cell_later hb (hc i hi).2⟩⟩
theorem below_of_drawn {w w' : World} (h : ∃ d, w' = w.drewN d) : Below w.heap.size w w' := by
  obtain ⟨d, rfl⟩ := h; exact below_drewN (Below.refl _ _) d
theorem below_from {w w1 w2 : World} (h1 : Below w.heap.size w w1) (h2 : Below w1.heap.size w1 w2) : Below w.heap.size w w2 := h1.trans (h2.mono h1.size)
def valueR (l : RunL) (t : Int) : Int × Int := if fine l = true then (if wth t 0 47 = true then (valAt l t, 0) else (0, 3)) else (0, 1)
def lowTo (v : Nat → Int) (a : Nat) : Nat → Int
  | 0 => v a
  | k + 1 => min (lowTo v a k) (v (a + k))
def IsLow (v : Nat → Int) (a b : Nat) (n : Int) : Prop := (∀ t, a ≤ t → t < b → n ≤ v t) ∧ ∃ t, a ≤ t ∧ t < b ∧ n = v t
theorem lowTo_low (v : Nat → Int) (a : Nat) : ∀ k, 0 < k → IsLow v a (a + k) (lowTo v a k)
  | 0, h => by omega
  | 1, _ => ⟨fun t h1 h2 => by obtain rfl : t = a := by omega
                               simp [lowTo], a, by omega, by omega, by simp [lowTo]⟩
  | k + 2, _ => by
    obtain ⟨h1, t, ht1, ht2, ht3⟩ := lowTo_low v a (k + 1) (by omega)
    rw [lowTo]
    refine ⟨fun s hs1 hs2 => ?_, ?_⟩
    · by_cases e : s = a + (k + 1)
      · subst e; omega
      · have := h1 s hs1 (by omega); omega
    · by_cases e : lowTo v a (k + 1) ≤ v (a + (k + 1))
      · exact ⟨t, ht1, by omega, by rw [← ht3]; omega⟩
      · exact ⟨a + (k + 1), by omega, by omega, by omega⟩
theorem IsLow.eq {v : Nat → Int} {a b : Nat} {n m : Int} (h1 : IsLow v a b n) (h2 : IsLow v a b m) : n = m := by
  obtain ⟨p1, t, t1, t2, t3⟩ := h1
  obtain ⟨q1, s, s1, s2, s3⟩ := h2
  have := p1 s s1 s2
  have := q1 t t1 t2
  omega
def vals (l : RunL) (t : Nat) : Int := valAt l (t : Int)
def leastR (l : RunL) (a b : Int) : Int × Int := if fine l = true then (if spn a b = true then (lowTo (vals l) a.toNat (b.toNat - a.toNat), 0) else (0, 3)) else (0, 1)
def Lows (l : RunL) (i m : Nat) (b n : Int) : Prop := n ≤ rN l i ∧ (∀ k, i < k → k < m → rAt l k < b → n ≤ rN l k) ∧ ∃ k, k < l.length ∧ (k = i ∨ (i < k ∧ rAt l k < b)) ∧ n = rN l k
theorem Reached.mono {l : RunL} (hr : Rises l) {s t : Int} {i k : Nat} (h1 : Reached l s i) (h2 : Reached l t k) (h : s ≤ t) : i ≤ k := by
  by_cases e : i ≤ k
  · exact e
  · have := h2.2.2 (by have := h1.1; omega)
    have := hr.le (i := k + 1) (j := i) (by omega) h1.1
    have := h1.2.1
    omega
theorem Lows.low {l : RunL} (hF : Fine l) {i : Nat} {a b : Nat} {n : Int} (hab : a < b) (hi : Reached l (a : Int) i) (h : Lows l i l.length b n) : IsLow (vals l) a b n := by
  obtain ⟨h1, h2, k, hk1, hk2, hk3⟩ := h
  refine ⟨fun t ta tb => ?_, ?_⟩
  · obtain ⟨m, hm⟩ := reached_ex hF.rises (t := (t : Int)) (by omega)
    have him := Reached.mono hF.rises hi hm (by omega)
    show n ≤ valAt l t
    rw [← hm.val hF.rises]
    by_cases e : i = m
    · subst e; exact h1
    · exact h2 m (by omega) hm.1 (by have := hm.2.1; omega)
  · rcases hk2 with rfl | ⟨hik, hkb⟩
    · exact ⟨a, by omega, hab, by show n = valAt l a; rw [hk3, hi.val hF.rises]⟩
    · have g1 := hi.2.2 (by omega)
      have g2 := hF.le (i := i + 1) (j := k) (by omega) hk1
      have hR : Reached l (rAt l k) k := ⟨hk1, Int.le_refl _, fun h => hF.lt h⟩
      refine ⟨(rAt l k).toNat, by omega, by omega, ?_⟩
      show n = valAt l ((rAt l k).toNat : Int)
      rw [Int.toNat_of_nonneg (by omega), hk3, hR.val hF.rises]
theorem Lows.start (l : RunL) (i : Nat) (b : Int) (hi : i < l.length) : Lows l i (i + 1) b (rN l i) :=
  ⟨Int.le_refl _, fun k h1 h2 => by omega, i, hi, Or.inl rfl, rfl⟩
theorem Lows.skip {l : RunL} {i m : Nat} {b n : Int} (h : Lows l i m b n) (hm : ¬ rAt l m < b) : Lows l i (m + 1) b n :=
  ⟨h.1, fun k h1 h2 h3 => by
    by_cases e : k = m
    · subst e; omega
    · exact h.2.1 k h1 (by omega) h3, h.2.2⟩
theorem Lows.take {l : RunL} {i m : Nat} {b n : Int} (h : Lows l i m b n) (him : i < m) (hl : m < l.length) (hm : rAt l m < b) : Lows l i (m + 1) b (min n (rN l m)) := by
  obtain ⟨h1, h2, k, hk1, hk2, hk3⟩ := h
  refine ⟨by omega, fun k h4 h5 h6 => ?_, ?_⟩
  · by_cases e : k = m
    · subst e; omega
    · have := h2 k h4 (by omega) h6; omega
  · by_cases e : n ≤ rN l m
    · exact ⟨k, hk1, hk2, by omega⟩
    · exact ⟨m, hl, Or.inr ⟨him, hm⟩, by omega⟩
theorem if_min (x y : Int) : (if y < x then y else x) = min x y := by rw [Int.min_def]; split <;> split <;> omega
set_option maxHeartbeats 400000 in
theorem Least_any (w : World) (a : Option Addr) (n cap : Nat) (l : RunL) (lo hi : Int) (h : RunsIn w a n cap l) :
   Calls Tryz.prog 138 #[.slice a n cap, .int .i64 lo, .int .i64 hi] w fun e w' => e = .returned (.tuple #[.int .i64 (leastR l lo hi).1, .int .i64 (leastR l lo hi).2]) ∧ Below w.heap.size w w' := by
  cases hf : fine l with
  | false =>
    have hv : leastR l lo hi = (0, 1) := by simp [leastR, hf]
    have hk : chk l = 1 := by simp [chk, hf]
    rw [hv]
    go_enter Tryz.func138, Tryz.ntmps138
    go_wp2_with (go_at_call 100; refine (Check_any _ a n cap l h).mono ?_; rintro e w' ⟨rfl, hb⟩; rw [hk])
    go_ret2
    exact ⟨rfl, hb⟩
  | true =>
    have hk : chk l = 0 := by simp [chk, hf]
    cases ht : spn lo hi with
    | false =>
      have hv : leastR l lo hi = (0, 3) := by simp [leastR, hf, ht]
      rw [hv]
      go_enter Tryz.func138, Tryz.ntmps138
      go_wp2_with (first | (go_at_call 100; refine (Check_any _ a n cap l h).mono ?_; rintro e w' ⟨rfl, hb⟩; rw [hk]) | (go_at_call 164; refine (span_any _ _ _).mono ?_; rintro e w' ⟨rfl, rfl⟩; rw [ht]))
      go_ret2
      exact ⟨rfl, hb⟩
    | true =>
      have hF := fine_iff.1 hf
      have hv : leastR l lo hi = (lowTo (vals l) lo.toNat (hi.toNat - lo.toNat), 0) := by simp [leastR, hf, ht]
      rw [hv]
      have ht' := ht
      simp [spn] at ht'
      obtain ⟨ht0, ht1, ht2⟩ := ht'
      have hnl := h.len
      have hp : 0 < n := by rw [hnl]; exact hF.1
      obtain ⟨b, off, rfl, hc⟩ := h.cells hp
      have HN : Hid (n = l.length) := hnl
      clear hnl
      have hle := h.le
      have hbd := h.bound
      have hcb := h.capb
      generalize hlow : lowTo (vals l) lo.toNat (hi.toNat - lo.toNat) = low
      have HL : Hid (∀ x i, Reached l lo i → Lows l i n hi x → x = low) := by
        intro x i hr hx
        rw [HN.out] at hx
        have := Lows.low (a := lo.toNat) (b := hi.toNat) hF (by omega) (by rw [Int.toNat_of_nonneg ht0]; exact hr) (by rw [Int.toNat_of_nonneg (by omega)]; exact hx)
        have h2 := lowTo_low (vals l) lo.toNat (hi.toNat - lo.toNat) (by omega)
        rw [show lo.toNat + (hi.toNat - lo.toNat) = hi.toNat from by omega, hlow] at h2
        exact this.eq h2
      clear hlow
      go_enter Tryz.func138, Tryz.ntmps138
      go_wp2_with (first | (go_at_call 100; refine (Check_any _ _ n cap l h).mono ?_; rintro e w' ⟨rfl, hb⟩; rw [hk]) | (go_at_call 164; refine (span_any _ _ _).mono ?_; rintro e w' ⟨rfl, rfl⟩; rw [ht]))
      refine (reach_any _ b off n cap l 0 lo (h.later hb) hp).mono ?_
      rintro e w2 ⟨j, rfl, h1, h2, h3, h4, rfl⟩
      have hr : Hid (Reached l lo j) := ⟨by have := HN.out; omega, by
        by_cases e : 0 < j
        · exact h3 e
        · obtain rfl : j = 0 := by omega
          rw [hF.at0]; omega, fun h => h4 (by have := HN.out; omega)⟩
      have hc2 : Hid (∀ i, i < n → w2.cell? ⟨b, off + i * 2, none⟩ = some (.int .i64 (rAt l i)) ∧ w2.cell? ⟨b, off + i * 2 + 1, none⟩ = some (.int .i64 (rN l i))) := fun i hi => ⟨cell_later hb (hc i hi).1, cell_later hb (hc i hi).2⟩
      have hlt : b < w2.heap.size := block_lt_of_cell (hc2.out 0 hp).1
      have cj := (hc2.out j h2).2
      have hj' : (j : Int) < n := by omega
      clear h3 h4 hc
      by_cases hj : cap = j + 1
      · obtain rfl : n = j + 1 := by omega
        subst hj
        go_wp2
        go_loop [10, 35] (fun m s => m = .int .i64 (rN l j) ∧ s = .int .i64 0) (fun _ _ => 0)
        case atStart => exact ⟨rfl, rfl⟩
        case round =>
          obtain ⟨rfl, rfl⟩ := hrel
          go_wp2
          go_ret2
          rw [HL.out _ _ hr.out (Lows.start l j hi (by have := HN.out; omega))]
          exact ⟨rfl, hb⟩
      · go_wp2
        go_loopw [10, 35] (fun m s wr => ∃ (q : Nat) (x : Int), s = .int .i64 q ∧ m = .int .i64 x ∧ q ≤ n - (j + 1) ∧ Lows l j (j + 1 + q) hi x ∧ Below w2.heap.size w2 wr) (fun _ s _ => n - (intOf s).toNat)
        case atStart => exact ⟨0, rN l j, rfl, rfl, by omega, Lows.start l j hi (by have := HN.out; omega), Below.refl _ _⟩
        case round =>
          obtain ⟨q, x, rfl, rfl, hq, hlow, hbel⟩ := hrel
          have HLW : Hid (Lows l j (j + 1 + q) hi x) := hlow
          clear hlow
          by_cases hlt2 : q < n - (j + 1)
          · have hq' : (q : Int) < (n : Int) - (↑j + 1) := by omega
            have c0 : wr.cell? ⟨b, off + (j + 1) * 2 + q * 2, none⟩ = some (.int .i64 (rAt l (j + 1 + q))) := by
              have := cell_later hbel (hc2.out (j + 1 + q) (by omega)).1
              rw [show off + (j + 1) * 2 + q * 2 = off + (j + 1 + q) * 2 from by omega]; exact this
            have c1 : wr.cell? ⟨b, off + (j + 1) * 2 + q * 2 + 1, none⟩ = some (.int .i64 (rN l (j + 1 + q))) := by
              have := cell_later hbel (hc2.out (j + 1 + q) (by omega)).2
              rw [show off + (j + 1) * 2 + q * 2 = off + (j + 1 + q) * 2 from by omega]; exact this
            have hbel' : Hid (Below w2.heap.size w2 (wr.alloc (.cells #[.int .i64 (rAt l (j + 1 + q)), .int .i64 (rN l (j + 1 + q))] 55))) := hbel.alloc hbel.size _
            clear hbel
            go_wp2
            · have hlt3 : rAt l (j + 1 + q) < hi := by assumption
              go_roundw
              case rel => exact ⟨q + 1, _, by go_num, rfl, by omega, by rw [if_min]; exact HLW.out.take (by omega) (by have := HN.out; omega) hlt3, hbel'.out⟩
              case measure => simp [intOf]; omega
            · have hlt3 : hi ≤ rAt l (j + 1 + q) := by assumption
              go_roundw
              case rel => exact ⟨q + 1, _, by go_num, rfl, by omega, HLW.out.skip (by omega), hbel'.out⟩
              case measure => simp [intOf]; omega
          · obtain rfl : q = n - (j + 1) := by omega
            go_wp2
            go_ret2
            have := HLW.out
            rw [show j + 1 + (n - (j + 1)) = n from by omega] at this
            rw [HL.out _ _ hr.out this]
            exact ⟨rfl, below_from hb hbel⟩
theorem SameRuns_same (w : World) (a1 a2 : Option Addr) (n cap1 cap2 : Nat) (l : RunL) (h1 : RunsIn w a1 n cap1 l) (h2 : RunsIn w a2 n cap2 l) :
   Calls Tryz.prog 28 #[.slice a1 n cap1, .slice a2 n cap2] w fun e w' => e = .returned (.bool true) ∧ ∃ d, w' = w.drewN d := by
  have hle := h1.le
  have hbd := h1.bound
  have hcb := h1.capb
  have hcc : Hid (0 < n → ∃ b1 off1 b2 off2, a1 = some ⟨b1, off1, none⟩ ∧ a2 = some ⟨b2, off2, none⟩ ∧ (∀ i, i < n → w.cell? ⟨b1, off1 + i * 2, none⟩ = some (.int .i64 (rAt l i)) ∧ w.cell? ⟨b1, off1 + i * 2 + 1, none⟩ = some (.int .i64 (rN l i))) ∧ (∀ i, i < n → w.cell? ⟨b2, off2 + i * 2, none⟩ = some (.int .i64 (rAt l i)) ∧ w.cell? ⟨b2, off2 + i * 2 + 1, none⟩ = some (.int .i64 (rN l i)))) := by
    intro hp
    obtain ⟨b1, o1, e1, c1⟩ := h1.cells hp
    obtain ⟨b2, o2, e2, c2⟩ := h2.cells hp
    exact ⟨b1, o1, b2, o2, e1, e2, c1, c2⟩
  clear h1 h2
  have hne : ((n : Int) != n) = false := by simp
  by_cases hp : 0 < n
  · obtain ⟨b1, o1, b2, o2, rfl, rfl, c1, c2⟩ := hcc.out hp
    go_enter Tryz.func28, Tryz.ntmps28
    go_wp2
    go_loopw [5] (fun s wr => ∃ j : Nat, s = .int .i64 j ∧ j ≤ n ∧ ∃ d, wr = w.drewN d) (fun s _ => n - (intOf s).toNat)
    case atStart => exact ⟨0, rfl, by omega, 0, rfl⟩
    case round =>
      obtain ⟨j, rfl, hj1, hd⟩ := hrel
      have HD : Hid (∃ d, wr = w.drewN d) := hd
      have hcr : ∀ a, wr.cell? a = w.cell? a := by obtain ⟨d, rfl⟩ := hd; exact fun a => rfl
      clear hd
      by_cases hj : j < n
      · have hj' : (j : Int) < n := by omega
        have d0 : wr.cell? ⟨b1, o1 + j * 2, none⟩ = some (.int .i64 (rAt l j)) := (hcr _).trans (c1 j hj).1
        have d1 : wr.cell? ⟨b1, o1 + j * 2 + 1, none⟩ = some (.int .i64 (rN l j)) := (hcr _).trans (c1 j hj).2
        have e0 : wr.cell? ⟨b2, o2 + j * 2, none⟩ = some (.int .i64 (rAt l j)) := (hcr _).trans (c2 j hj).1
        have e1 : wr.cell? ⟨b2, o2 + j * 2 + 1, none⟩ = some (.int .i64 (rN l j)) := (hcr _).trans (c2 j hj).2
        clear hcr c1 c2
        go_wp2
        go_quiet (fail)
        go_wp2
        go_roundw
        case rel => exact ⟨j + 1, by go_num, by omega, drawn_more HD _⟩
        case measure => simp [intOf]; omega
      · obtain rfl : j = n := by omega
        clear hcr c1 c2
        go_wp2
        go_ret
        exact ⟨rfl, HD.out⟩
  · obtain rfl : n = 0 := by omega
    go_enter Tryz.func28, Tryz.ntmps28
    go_wp2
    go_loop [5] (fun s => s = .int .i64 0) (fun _ => 0)
    case atStart => rfl
    case round =>
      subst hrel
      go_wp2
      go_ret
      exact ⟨rfl, 0, rfl⟩
end Go.Proofs.YtckpdfkobdgjeaaGreatDoor
namespace Go.Proofs.YtckpdfkobdgjeaaGreatDoor
open Go.RowKit
theorem hid {p : Prop} (h : p) : Hid p := h
def cellsOf : RunL → List Value
  | [] => []
  | r :: l => .int .i64 r.1 :: .int .i64 r.2 :: cellsOf l
theorem cellsOf_length : ∀ l : RunL, (cellsOf l).length = l.length * 2
  | [] => rfl
  | r :: l => by simp [cellsOf, cellsOf_length l]; omega
theorem cellsOf_app : ∀ (l : RunL) (x : Int × Int), cellsOf (l ++ [x]) = cellsOf l ++ [.int .i64 x.1, .int .i64 x.2]
  | [], x => rfl
  | r :: l, x => by simp [cellsOf, cellsOf_app l x]
theorem cellsOf_even : ∀ (l : RunL) (i : Nat), i < l.length → (cellsOf l)[i * 2]? = some (.int .i64 (rAt l i))
  | [], i, h => by simp at h
  | r :: l, 0, _ => by simp [cellsOf, rAt]
  | r :: l, i + 1, h => by
    have := cellsOf_even l i (by simpa using h)
    rw [show (i + 1) * 2 = i * 2 + 1 + 1 from by omega]
    simpa [cellsOf, rAt] using this
theorem cellsOf_odd : ∀ (l : RunL) (i : Nat), i < l.length → (cellsOf l)[i * 2 + 1]? = some (.int .i64 (rN l i))
  | [], i, h => by simp at h
  | r :: l, 0, _ => by simp [cellsOf, rN]
  | r :: l, i + 1, h => by
    have := cellsOf_odd l i (by simpa using h)
    rw [show (i + 1) * 2 + 1 = i * 2 + 1 + 1 + 1 from by omega]
    simpa [cellsOf, rN] using this
def OwnRuns (w : World) (B : Nat) (v : Value) (l : RunL) : Prop := w.ownsRow B 55 2 v l.length (cellsOf l)
theorem OwnRuns.parts {w : World} {B : Nat} {v : Value} {l : RunL} (h : OwnRuns w B v l) (h48 : l.length ≤ 48) :
    ∃ a cap, v = .slice a l.length cap ∧ RunsIn w a l.length cap l ∧ (l = [] → v = .slice none 0 0 ∨ True) ∧ (0 < l.length → ∃ g, a = some ⟨g, 0, none⟩ ∧ B ≤ g ∧ g < w.heap.size) := by
  have h' := h
  rcases h'.2 with ⟨hv, hn⟩ | ⟨g, cap, cur, hv, hg, hh, hle, hcap, hs, ht⟩
  · have hl : l = [] := List.eq_nil_of_length_eq_zero hn
    subst hl
    exact ⟨none, 0, by simpa using hv, ⟨rfl, Nat.le_refl _, by simp, by simp, fun h => by simp at h⟩, fun _ => Or.inr trivial, fun h => by simp at h⟩
  · subst hv
    refine ⟨some ⟨g, 0, none⟩, cap, rfl, ⟨rfl, hle, by omega, hcap, fun _ => ⟨g, 0, rfl, fun i hi => ⟨?_, ?_⟩⟩⟩, fun _ => Or.inr trivial, fun _ => ⟨g, rfl, hg, ?_⟩⟩
    · rw [Nat.zero_add]; exact (World.ownsRow.cellAt h (i * 2) (by omega)).trans (cellsOf_even l i hi)
    · rw [Nat.zero_add]; exact (World.ownsRow.cellAt h (i * 2 + 1) (by omega)).trans (cellsOf_odd l i hi)
    · exact (Array.getElem?_eq_some_iff.1 hh).1
theorem two_new (w : World) (p q : Value) (t : TypeId) : ∀ (j : Nat) (u : Value), [p, q][j]? = some u → (w.alloc (.cells #[p, q] t)).cell? ((⟨w.heap.size, 0, none⟩ : Addr).add j) = some u := by
  intro j u hj
  match j, hj with
  | 0, hj => simp at hj; subst hj; simp [Addr.add]
  | 1, hj => simp at hj; subst hj; simp [Addr.add]
theorem two_one (p q : Int) : ∀ u ∈ [Value.int .i64 p, Value.int .i64 q], u.oneCell' = true := by
  intro u hu
  simp at hu
  rcases hu with rfl | rfl <;> rfl
theorem foldTo_len (v : Nat → Int) (n : Nat) : (foldTo v n).length ≤ n := by
  by_cases h : n = 0
  · subst h; simp [foldTo]
  · exact (foldTo_ok v n (by omega)).2.2.2
theorem own_more {f : Nat → Int} {t : Nat} {x : Int} {B : Nat} {w w2 w3 : World} {v v' : Value} {o : Obj} (hx : f t = x) (hc : t = 0 ∨ f (t - 1) ≠ f t) (hb : Below B w w2) (hB : B ≤ w2.heap.size)
    (hown0 : OwnRuns w2 B v (foldTo f t))
    (hown : w3.ownsRow B 55 2 v' ((foldTo f t).length + 1) (cellsOf (foldTo f t) ++ [.int .i64 (t : Int), .int .i64 x])) (hg : (w2.alloc o).grownBy w3 v.ownBlock) :
    OwnRuns w3 B v' (foldTo f (t + 1)) ∧ Below B w w3 ∧ B ≤ w3.heap.size := by
  have e : foldTo f (t + 1) = foldTo f t ++ [((t : Int), x)] := by rw [foldTo, if_pos hc, hx]
  have hb3 : Below B w w3 := (hb.alloc hB o).grown hg (by simp; omega) (fun k hk => (hown0.lt k hk).1)
  refine ⟨?_, hb3, ?_⟩
  · unfold OwnRuns
    rw [e, cellsOf_app]
    simpa using hown
  · have := hg.size; simp at this; omega
theorem own_same {f : Nat → Int} {t : Nat} (h0 : t ≠ 0) (he : f (t - 1) = f t) : foldTo f (t + 1) = foldTo f t := by
  rw [foldTo, if_neg (by rintro (h | h); exact h0 h; exact h he)]
theorem Tryz.info56 : (Tryz.prog.info? 55).map (fun i => (i.zero, i.size, i.bytes)) = some (some (.agg #[.int .i64 0, .int .i64 0]), 2, 16) := by kernel_rfl
def JoinsBy (k : Nat) (jn : Int → Int → Int) : Prop :=
  (∀ (args : Array Value) (w : World), (callFunc k args).run Tryz.prog w = .ok (.enter k args) w) ∧
  ∀ (x y : Int) (w : World), bdd x = true → bdd y = true → Calls Tryz.prog k #[.int .i64 x, .int .i64 y] w fun e w' => e = .returned (.int .i64 (jn x y)) ∧ w' = w
def jv (jn : Int → Int → Int) (l1 l2 : RunL) (t : Nat) : Int := jn (vals l1 t) (vals l2 t)
set_option maxHeartbeats 1000000 in
theorem lay_any (k : Nat) (jn : Int → Int → Int) (hj : JoinsBy k jn) (w : World) (b1 o1 n1 cap1 b2 o2 n2 cap2 : Nat) (l1 l2 : RunL) (h1 : RunsIn w (some ⟨b1, o1, none⟩) n1 cap1 l1) (h2 : RunsIn w (some ⟨b2, o2, none⟩) n2 cap2 l2)
   (r1 : Rises l1) (r2 : Rises l2) (d1 : ∀ i, i < n1 → bdd (rN l1 i) = true) (d2 : ∀ i, i < n2 → bdd (rN l2 i) = true) :
   Calls Tryz.prog 165 #[.slice (some ⟨b1, o1, none⟩) n1 cap1, .slice (some ⟨b2, o2, none⟩) n2 cap2, .func (.func k) #[] #[]] w fun e w' =>
     (allTo (jv jn l1 l2) 48 = true ∧ ∃ v, e = .returned (.tuple #[v, .int .i64 0]) ∧ OwnRuns w' w.heap.size v (foldTo (jv jn l1 l2) 48) ∧ Below w.heap.size w w') ∨
     (allTo (jv jn l1 l2) 48 = false ∧ e = .returned (.tuple #[.slice none 0 0, .int .i64 2]) ∧ Below w.heap.size w w') := by
  have N1 : Hid (n1 = l1.length) := h1.len
  have N2 : Hid (n2 = l2.length) := h2.len
  have p1 : 0 < n1 := by rw [N1.out]; exact r1.1
  have p2 : 0 < n2 := by rw [N2.out]; exact r2.1
  have C1 := h1.cells p1
  have C2 := h2.cells p2
  obtain ⟨b1', o1', e, c1⟩ := C1
  cases e
  obtain ⟨b2', o2', e, c2⟩ := C2
  cases e
  have le1 := h1.le
  have le2 := h2.le
  have bd1 := h1.bound
  have bd2 := h2.bound
  have HC1 := hid c1
  have HC2 := hid c2
  have HD1 := hid d1
  have HD2 := hid d2
  clear c1 c2 d1 d2
  obtain ⟨hjf, hjc⟩ := hj
  go_enter Tryz.func165, Tryz.ntmps165
  go_wp2
  go_loopw [8, 9, 10, 13] (fun v si sj st wr => ∃ (t i j : Nat), st = .int .i64 t ∧ t ≤ 48 ∧ si = .int .i64 i ∧ sj = .int .i64 j ∧ i < n1 ∧ j < n2 ∧ rAt l1 i ≤ t ∧ rAt l2 j ≤ t ∧ allTo (jv jn l1 l2) t = true ∧ OwnRuns wr w.heap.size v (foldTo (jv jn l1 l2) t) ∧ (t = 0 → v = .slice none 0 0) ∧ Below w.heap.size w wr) (fun _ _ _ st _ => 48 - (intOf st).toNat)
  case atStart => exact ⟨0, 0, 0, rfl, by omega, rfl, rfl, p1, p2, by rw [r1.2.1]; exact Int.le_refl _, by rw [r2.2.1]; exact Int.le_refl _, rfl, World.ownsRow_nil _ _ _ _, fun _ => rfl, Below.refl _ _⟩
  case round =>
    obtain ⟨t, i, j, rfl, ht, rfl, rfl, hi, hj, ai, aj, hall, hown, hnil, hbel⟩ := hrel
    by_cases hlt : t < 48
    · have hlt' : (t : Int) < 48 := by omega
      have HA := hid hall
      have HO := hid hown
      have HZ := hid hnil
      have HB := hid hbel
      clear hall hown hnil hbel
      go_wp2_with fail
      refine (reach_any _ b1 o1 n1 cap1 l1 i t (h1.later HB.out) hi).mono ?_
      rintro e w1 ⟨i', rfl, g1, g2, g3, g4, rfl⟩
      have R1 : Hid (Reached l1 t i') := ⟨by have := N1.out; omega, by
        by_cases e : i < i'
        · exact g3 e
        · obtain rfl : i = i' := by omega
          exact ai, fun h => g4 (by have := N1.out; omega)⟩
      clear g3 g4
      go_wp2_with fail
      refine (reach_any _ b2 o2 n2 cap2 l2 j t (h2.later HB.out) hj).mono ?_
      rintro e w1 ⟨j', rfl, g1', g2', g3, g4, rfl⟩
      have R2 : Hid (Reached l2 t j') := ⟨by have := N2.out; omega, by
        by_cases e : j < j'
        · exact g3 e
        · obtain rfl : j = j' := by omega
          exact aj, fun h => g4 (by have := N2.out; omega)⟩
      clear g3 g4
      have ci : w1.cell? ⟨b1, o1 + i' * 2 + 1, none⟩ = some (.int .i64 (vals l1 t)) := (cell_later HB.out (HC1.out i' g2).2).trans (by rw [R1.out.val r1]; rfl)
      have cj : w1.cell? ⟨b2, o2 + j' * 2 + 1, none⟩ = some (.int .i64 (vals l2 t)) := (cell_later HB.out (HC2.out j' g2').2).trans (by rw [R2.out.val r2]; rfl)
      have q1 : Hid (bdd (vals l1 t) = true) := by show bdd (valAt l1 t) = true; rw [← R1.out.val r1]; exact HD1.out i' g2
      have q2 : Hid (bdd (vals l2 t) = true) := by show bdd (valAt l2 t) = true; rw [← R2.out.val r2]; exact HD2.out j' g2'
      have hi' : (i' : Int) < n1 := by omega
      have hj' : (j' : Int) < n2 := by omega
      go_wp2
      go_quiet ((exact Calls.quiet_of_same (hjc _ _ _ q1.out q2.out)))
      go_wp2_with fail
      obtain ⟨x, hx⟩ : ∃ x, jn (vals l1 t) (vals l2 t) = x := ⟨_, rfl⟩
      rw [hx]
      have HX : Hid (jv jn l1 l2 t = x) := hx
      clear hx
      refine (bounded_any _ _).mono ?_
      rintro e w2 ⟨rfl, rfl⟩
      cases hbx : bdd x with
      | false =>
        go_wp2
        go_ret2
        refine Or.inr ⟨?_, rfl, below_drewN HB.out _⟩
        cases hc : allTo (jv jn l1 l2) 48 with
        | false => rfl
        | true =>
          have := (allTo_iff _ 48).1 hc t hlt
          rw [HX.out, hbx] at this
          cases this
      | true =>
        have HA' : Hid (allTo (jv jn l1 l2) (t + 1) = true) := by
          show allTo (jv jn l1 l2) (t + 1) = true
          rw [allTo, HA.out, HX.out, hbx]; rfl
        have HB' : Hid (Below w.heap.size w (w1.drewN nq)) := below_drewN HB.out _
        have HO' : Hid (OwnRuns (w1.drewN nq) w.heap.size u8 (foldTo (jv jn l1 l2) t)) := HO.out
        generalize hw2 : w1.drewN nq = w2
        rw [hw2] at HB' HO'
        clear hw2 ci cj HO HB
        have aj2 : Hid (rAt l1 i' ≤ ((t + 1 : Nat) : Int) ∧ rAt l2 j' ≤ ((t + 1 : Nat) : Int)) := ⟨by have := R1.out.2.1; omega, by have := R2.out.2.1; omega⟩
        obtain ⟨i0, hi0, hz0, hz1, hz2⟩ := info_parts Tryz.info56
        have hB2 : w.heap.size ≤ w2.heap.size := HB'.out.size
        cases t with
        | zero =>
          obtain rfl := HZ.out rfl
          clear HZ
          have tok : True := trivial
          go_wp2_with (at_builtin; have _t := tok; refine wpList_append_own _ rfl _ _ 25 rfl w.heap.size 55 i0 (.agg #[.int .i64 0, .int .i64 0]) 2 16 Tryz.underlying25 hi0 hz0 hz1 hz2 rfl (by decide) _ _ _ rfl (HO'.out.alloc _) ⟨w2.heap.size, 0, none⟩ 1 1 [.int .i64 0, .int .i64 x] rfl rfl ?c1 ?c2 ?c3 ?c4 ?c5 ?_; clear tok)
          case c1 => exact two_new _ _ _ _
          case c2 => exact two_one _ _
          case c3 => simp [foldTo, maxLen]
          case c4 => simp [foldTo]
          case c5 => simp; omega
          intro v' w3 hown' hgrow _
          have R := hid (own_more (t := 0) HX.out (Or.inl rfl) HB'.out hB2 HO'.out hown' hgrow)
          clear hown' hgrow
          go_wp2
          go_roundw
          case rel => exact ⟨1, i', j', rfl, by omega, rfl, rfl, g2, g2', aj2.out.1, aj2.out.2, HA'.out, R.out.1, fun h => by omega, R.out.2.1⟩
          case measure => simp [intOf]
        | succ s =>
          obtain ⟨f1, f2, f3, f4⟩ := foldTo_ok (jv jn l1 l2) (s + 1) (by omega)
          obtain ⟨a, cap, hv, hR, _, hg⟩ := OwnRuns.parts HO'.out (by omega)
          obtain ⟨g, ha, hBg, hgl⟩ := hg f1
          obtain ⟨m, hm⟩ : ∃ m, (foldTo (jv jn l1 l2) (s + 1)).length = m + 1 := ⟨(foldTo (jv jn l1 l2) (s + 1)).length - 1, by omega⟩
          have HM := hid hm
          rw [hm] at f2 f4 hv
          subst ha
          subst hv
          have cm : w2.cell? ⟨g, m * 2 + 1, none⟩ = some (.int .i64 (jv jn l1 l2 s)) := by
            obtain ⟨b', o', e, hc⟩ := hR.cells (by omega)
            cases e
            have := (hc m (by omega)).2
            rw [Nat.zero_add] at this
            rw [this]
            simp only [Nat.add_sub_cancel] at f2
            rw [f2]
          have hne : (((m : Int) + 1) == 0) = false := beq_eq_false_iff_ne.2 (by omega)
          have hm48 : m < 48 := by omega
          clear f1 f2 f3 f4 hm hR
          obtain ⟨y, hy⟩ : ∃ y, jv jn l1 l2 s = y := ⟨_, rfl⟩
          rw [hy] at cm
          have HY := hid hy
          clear hy
          have tok : True := trivial
          by_cases hxy : y = x
          · have hxy' : (y != x) = false := by simp [hxy]
            have HXY := hid hxy
            clear hxy
            go_wp2
            go_roundw
            case rel => exact ⟨s + 1 + 1, i', j', by go_num, by omega, rfl, rfl, g2, g2', aj2.out.1, aj2.out.2, HA'.out, by rw [own_same (by omega) (by simp only [Nat.add_sub_cancel]; rw [HY.out, HX.out]; exact HXY.out)]; exact HO'.out, fun h => by omega, HB'.out⟩
            case measure => simp [intOf]; omega
          · have hxy' : (y != x) = true := by simp [hxy]
            go_wp2_with (at_builtin; have _t := tok; refine wpList_append_own _ rfl _ _ 25 rfl w.heap.size 55 i0 (.agg #[.int .i64 0, .int .i64 0]) 2 16 Tryz.underlying25 hi0 hz0 hz1 hz2 rfl (by decide) _ _ _ rfl (HO'.out.alloc _) ⟨w2.heap.size, 0, none⟩ 1 1 [.int .i64 ((s : Int) + 1), .int .i64 x] rfl rfl ?c1 ?c2 ?c3 ?c4 ?c5 ?_; clear tok)
            case c1 => exact two_new _ _ _ _
            case c2 => exact two_one _ _
            case c3 => have := HM.out; simp only [maxLen]; omega
            case c4 => have := HM.out; omega
            case c5 => simp; omega
            intro v' w3 hown' hgrow _
            have R := hid (own_more (t := s + 1) HX.out (Or.inr (by simp only [Nat.add_sub_cancel]; rw [HY.out, HX.out]; exact hxy)) HB'.out hB2 HO'.out hown' hgrow)
            clear hown' hgrow
            go_wp2
            go_roundw
            case rel => exact ⟨s + 1 + 1, i', j', by go_num, by omega, rfl, rfl, g2, g2', aj2.out.1, aj2.out.2, HA'.out, R.out.1, fun h => by omega, R.out.2.1⟩
            case measure => simp [intOf]; omega
    · obtain rfl : t = 48 := by omega
      have HA := hid hall
      have HO := hid hown
      have HB := hid hbel
      clear hall hown hnil hbel
      go_wp2
      go_ret2
      exact Or.inl ⟨HA.out, _, rfl, HO.out, HB.out⟩
end Go.Proofs.YtckpdfkobdgjeaaGreatDoor
namespace Go.Proofs.YtckpdfkobdgjeaaGreatDoor
open Go.RowKit
theorem checkBoth_any (w : World) (a1 a2 : Option Addr) (n1 n2 cap1 cap2 : Nat) (l1 l2 : RunL) (h1 : RunsIn w a1 n1 cap1 l1) (h2 : RunsIn w a2 n2 cap2 l2) :
   Calls Tryz.prog 169 #[.slice a1 n1 cap1, .slice a2 n2 cap2] w fun e w' => e = .returned (.int .i64 (if (fine l1 && fine l2) = true then 0 else 1)) ∧ Below w.heap.size w w' := by
  cases hf : fine l1 with
  | false =>
    have hk : chk l1 = 1 := by simp [chk, hf]
    rw [Bool.false_and, if_neg (by decide)]
    go_enter Tryz.func169, Tryz.ntmps169
    go_wp2_with fail
    refine (Check_any _ a1 n1 cap1 l1 h1).mono ?_
    rintro e w1 ⟨rfl, hb⟩
    rw [hk]
    go_wp2
    go_ret
    exact ⟨rfl, hb⟩
  | true =>
    have hk : chk l1 = 0 := by simp [chk, hf]
    have he : (if (true && fine l2) = true then (0 : Int) else 1) = chk l2 := by simp [chk]
    rw [he]
    go_enter Tryz.func169, Tryz.ntmps169
    go_wp2_with fail
    refine (Check_any _ a1 n1 cap1 l1 h1).mono ?_
    rintro e w1 ⟨rfl, hb⟩
    rw [hk]
    go_wp2_with fail
    refine (Check_any _ a2 n2 cap2 l2 (h2.later hb)).mono ?_
    rintro e w2 ⟨rfl, hb2⟩
    go_wp2
    go_ret
    exact ⟨rfl, below_from hb hb2⟩
def tell (f : Nat → Int) : RunL × Int := if allTo f 48 = true then (foldTo f 48, 0) else ([], 2)
def joinR (jn : Int → Int → Int) (l1 l2 : RunL) : RunL × Int := if (fine l1 && fine l2) = true then tell (jv jn l1 l2) else ([], 1)
def Gives (w w' : World) (e : Ending) (r : RunL × Int) : Prop := ∃ a n cap, e = .returned (.tuple #[.slice a n cap, .int .i64 r.2]) ∧ RunsIn w' a n cap r.1 ∧ Below w.heap.size w w'
theorem runsIn_nil (w : World) : RunsIn w none 0 0 [] := ⟨rfl, Nat.le_refl _, by simp, by simp, fun h => by simp at h⟩
theorem runs_lit (w : World) (l : RunL) (c : Array Value) (n : Nat) (hc : c.toList = cellsOf l) (hn : n = l.length) (hb : l.length ≤ 48) : RunsIn (w.alloc (.cells c 55)) (some ⟨w.heap.size, 0, none⟩) n n l := by
  refine ⟨hn, Nat.le_refl _, by omega, by omega, fun _ => ⟨w.heap.size, 0, rfl, fun i hi => ?_⟩⟩
  rw [World.cell?_alloc_at _ _ _ _ rfl, World.cell?_alloc_at _ _ _ _ rfl]
  have h1 := cellsOf_even l i (by omega)
  have h2 := cellsOf_odd l i (by omega)
  rw [← hc] at h1 h2
  simp only [Array.getElem?_toList] at h1 h2
  rw [Nat.zero_add]
  exact ⟨h1, h2⟩
theorem gives_err {w w' : World} {er : Int} (hb : Below w.heap.size w w') : Gives w w' (.returned (.tuple #[.slice none 0 0, .int .i64 er])) ([], er) := ⟨none, 0, 0, rfl, runsIn_nil _, hb⟩
theorem JoinsBy.of {k : Nat} {jn : Int → Int → Int} (hf : ∀ (args : Array Value) (w : World), (callFunc k args).run Tryz.prog w = .ok (.enter k args) w)
    (h : ∀ (x y : Int) (w : World), -1048576 ≤ x → x ≤ 1048576 → -1048576 ≤ y → y ≤ 1048576 → Calls Tryz.prog k #[.int .i64 x, .int .i64 y] w fun e w' => e = .returned (.int .i64 (jn x y)) ∧ w' = w) : JoinsBy k jn :=
  ⟨hf, fun x y w hx hy => h x y w (bdd_iff.1 hx).1 (bdd_iff.1 hx).2 (bdd_iff.1 hy).1 (bdd_iff.1 hy).2⟩
theorem joins48 : JoinsBy 170 (fun x y => x - y) := by
  refine JoinsBy.of (fun args w => by go_simp) fun x y w h1 h2 h3 h4 => ?_
  go_enter Tryz.func170, Tryz.ntmps170
  go_wp2
  go_ret
  exact ⟨rfl, rfl⟩
theorem joins49 : JoinsBy 188 (fun x y => min x y) := by
  refine JoinsBy.of (fun args w => by go_simp) fun x y w h1 h2 h3 h4 => ?_
  go_enter Tryz.func188, Tryz.ntmps188
  go_wp2
  all_goals
    go_ret
    exact ⟨ret_int (by omega), rfl⟩
theorem joins54 : JoinsBy 166 (fun x y => x + y) := by
  refine JoinsBy.of (fun args w => by go_simp) fun x y w h1 h2 h3 h4 => ?_
  go_enter Tryz.func166, Tryz.ntmps166
  go_wp2
  go_ret
  exact ⟨rfl, rfl⟩
theorem lay_gives (k : Nat) (jn : Int → Int → Int) (hj : JoinsBy k jn) (w : World) (a1 a2 : Option Addr) (n1 cap1 n2 cap2 : Nat) (l1 l2 : RunL) (h1 : RunsIn w a1 n1 cap1 l1) (h2 : RunsIn w a2 n2 cap2 l2)
   (r1 : Rises l1) (r2 : Rises l2) (d1 : ∀ i, i < n1 → bdd (rN l1 i) = true) (d2 : ∀ i, i < n2 → bdd (rN l2 i) = true) :
   Calls Tryz.prog 165 #[.slice a1 n1 cap1, .slice a2 n2 cap2, .func (.func k) #[] #[]] w fun e w' => Gives w w' e (tell (jv jn l1 l2)) := by
  have p1 : 0 < n1 := by rw [h1.len]; exact r1.1
  have p2 : 0 < n2 := by rw [h2.len]; exact r2.1
  obtain ⟨b1, o1, rfl, _⟩ := h1.cells p1
  obtain ⟨b2, o2, rfl, _⟩ := h2.cells p2
  refine (lay_any k jn hj w b1 o1 n1 cap1 b2 o2 n2 cap2 l1 l2 h1 h2 r1 r2 d1 d2).mono ?_
  rintro e w' (⟨ha, v, rfl, ho, hb⟩ | ⟨ha, rfl, hb⟩)
  · obtain ⟨a, cap, rfl, hr, _⟩ := ho.parts (foldTo_len _ 48)
    have : tell (jv jn l1 l2) = (foldTo (jv jn l1 l2) 48, 0) := by simp [tell, ha]
    rw [this]
    exact ⟨a, _, cap, rfl, hr, hb⟩
  · have : tell (jv jn l1 l2) = ([], 2) := by simp [tell, ha]
    rw [this]
    exact gives_err hb
theorem Gives.from {w w1 w2 : World} {e : Ending} {r : RunL × Int} (hb : Below w.heap.size w w1) (h : Gives w1 w2 e r) : Gives w w2 e r := by
  obtain ⟨a, n, cap, he, hr, hb2⟩ := h
  exact ⟨a, n, cap, he, hr, below_from hb hb2⟩
theorem Minus_any (w : World) (a1 a2 : Option Addr) (n1 n2 cap1 cap2 : Nat) (l1 l2 : RunL) (h1 : RunsIn w a1 n1 cap1 l1) (h2 : RunsIn w a2 n2 cap2 l2) :
   Calls Tryz.prog 137 #[.slice a1 n1 cap1, .slice a2 n2 cap2] w fun e w' => Gives w w' e (joinR (fun x y => x - y) l1 l2) := by
  cases hf : (fine l1 && fine l2) with
  | false =>
    have hr : joinR (fun x y => x - y) l1 l2 = ([], 1) := by simp only [joinR, hf]; rfl
    rw [hr]
    have hk : (if (fine l1 && fine l2) = true then (0 : Int) else 1) = 1 := by rw [hf]; rfl
    go_enter Tryz.func137, Tryz.ntmps137
    go_wp2_with fail
    refine (checkBoth_any _ _ _ _ _ _ _ l1 l2 h1 h2).mono ?_
    rintro e w1 ⟨rfl, hb⟩
    rw [hk]
    go_wp2
    go_ret2
    exact gives_err hb
  | true =>
    have hr : joinR (fun x y => x - y) l1 l2 = tell (jv (fun x y => x - y) l1 l2) := by simp only [joinR, hf]; rfl
    rw [hr]
    have hk : (if (fine l1 && fine l2) = true then (0 : Int) else 1) = 0 := by rw [hf]; rfl
    rw [Bool.and_eq_true] at hf
    have F1 := hid (fine_iff.1 hf.1)
    have F2 := hid (fine_iff.1 hf.2)
    obtain ⟨r, hr2⟩ : ∃ r, r = tell (jv (fun x y => x - y) l1 l2) := ⟨_, rfl⟩
    rw [← hr2]
    have HR := hid hr2
    clear hr2 hr hf
    go_enter Tryz.func137, Tryz.ntmps137
    go_wp2_with fail
    refine (checkBoth_any _ _ _ _ _ _ _ l1 l2 h1 h2).mono ?_
    rintro e w1 ⟨rfl, hb⟩
    rw [hk]
    go_wp2_with fail
    have hl := lay_gives 170 _ joins48 w1 a1 a2 n1 cap1 n2 cap2 l1 l2 (h1.later hb) (h2.later hb) F1.out.rises F2.out.rises (fun i hi => F1.out.bdd (by rw [← h1.len]; exact hi)) (fun i hi => F2.out.bdd (by rw [← h2.len]; exact hi))
    rw [← HR.out] at hl
    refine hl.mono ?_
    clear hl
    rintro e w2 ⟨a, n, cap, rfl, hr, hb2⟩
    go_wp2
    go_ret2
    exact ⟨a, n, cap, rfl, hr, below_from hb hb2⟩
def bumpV (l : RunL) (a b n : Int) (t : Nat) : Int := if a ≤ t ∧ (t : Int) < b then vals l t + n else vals l t
def bumpR (l : RunL) (a b n : Int) : RunL × Int := if fine l = true then (if (spn a b && bdd n) = true then tell (bumpV l a b n) else ([], 3)) else ([], 1)
theorem more_rises {a b n : Int} (h0 : 0 ≤ a) (h1 : a < b) : Rises [(0, 0), (a, n), (b, 0)] := by
  refine ⟨by simp, rfl, fun i hi => ?_⟩
  simp at hi
  match i, hi with
  | 0, _ => simpa [rAt] using h0
  | 1, _ => simp [rAt]; omega
theorem more_val {a b n : Int} (t : Nat) : vals [(0, 0), (a, n), (b, 0)] t = if b ≤ t then 0 else if a ≤ t then n else 0 := by
  have e1 : rAt [(0, 0), (a, n), (b, 0)] 2 = b := rfl
  have e2 : rAt [(0, 0), (a, n), (b, 0)] 1 = a := rfl
  show rN [(0, 0), (a, n), (b, 0)] (if rAt [(0, 0), (a, n), (b, 0)] 2 ≤ (t : Int) then 2 else if rAt [(0, 0), (a, n), (b, 0)] 1 ≤ (t : Int) then 1 else 0) = _
  rw [e1, e2]
  by_cases g1 : b ≤ (t : Int)
  · rw [if_pos g1, if_pos g1]; rfl
  · rw [if_neg g1, if_neg g1]
    by_cases g2 : a ≤ (t : Int)
    · rw [if_pos g2, if_pos g2]; rfl
    · rw [if_neg g2, if_neg g2]; rfl
theorem bump_tell {l : RunL} {a b n : Int} : tell (jv (fun x y => x + y) l [(0, 0), (a, n), (b, 0)]) = tell (bumpV l a b n) := by
  have he : ∀ t, jv (fun x y => x + y) l [(0, 0), (a, n), (b, 0)] t = bumpV l a b n t := by
    intro t
    simp only [jv, more_val, bumpV]
    split
    · rw [if_neg (by omega)]; omega
    · split
      · rw [if_pos (by omega)]
      · rw [if_neg (by omega)]; omega
  simp only [tell]
  rw [allTo_congr 48 (fun t _ => he t), foldTo_congr 48 (fun t _ => he t)]
end Go.Proofs.YtckpdfkobdgjeaaGreatDoor
namespace Go.Proofs.YtckpdfkobdgjeaaGreatDoor
open Go.RowKit
def GivesN (w w' : World) (e : Ending) (r : RunL × Int) : Prop := ∃ a n cap, e = .returned (.tuple #[.slice a n cap, .int .i64 r.2]) ∧ RunsIn w' a n cap r.1 ∧ Below w.heap.size w w' ∧ ∀ b off, a = some ⟨b, off, none⟩ → w.heap.size ≤ b
theorem givesN_err {w w' : World} {er : Int} (hb : Below w.heap.size w w') : GivesN w w' (.returned (.tuple #[.slice none 0 0, .int .i64 er])) ([], er) := ⟨none, 0, 0, rfl, runsIn_nil _, hb, fun _ _ e => by cases e⟩
theorem lay_givesN (k : Nat) (jn : Int → Int → Int) (hj : JoinsBy k jn) (w : World) (a1 a2 : Option Addr) (n1 cap1 n2 cap2 : Nat) (l1 l2 : RunL) (h1 : RunsIn w a1 n1 cap1 l1) (h2 : RunsIn w a2 n2 cap2 l2)
   (r1 : Rises l1) (r2 : Rises l2) (d1 : ∀ i, i < n1 → bdd (rN l1 i) = true) (d2 : ∀ i, i < n2 → bdd (rN l2 i) = true) :
   Calls Tryz.prog 165 #[.slice a1 n1 cap1, .slice a2 n2 cap2, .func (.func k) #[] #[]] w fun e w' => GivesN w w' e (tell (jv jn l1 l2)) := by
  have p1 : 0 < n1 := by rw [h1.len]; exact r1.1
  have p2 : 0 < n2 := by rw [h2.len]; exact r2.1
  obtain ⟨b1, o1, rfl, _⟩ := h1.cells p1
  obtain ⟨b2, o2, rfl, _⟩ := h2.cells p2
  refine (lay_any k jn hj w b1 o1 n1 cap1 b2 o2 n2 cap2 l1 l2 h1 h2 r1 r2 d1 d2).mono ?_
  rintro e w' (⟨ha, v, rfl, ho, hb⟩ | ⟨ha, rfl, hb⟩)
  · obtain ⟨a, cap, rfl, hr, _, hg⟩ := ho.parts (foldTo_len _ 48)
    have : tell (jv jn l1 l2) = (foldTo (jv jn l1 l2) 48, 0) := by simp [tell, ha]
    rw [this]
    refine ⟨a, _, cap, rfl, hr, hb, fun b off e => ?_⟩
    obtain ⟨g, ha, hge, _⟩ := hg (foldTo_ok _ 48 (by omega)).1
    rw [e] at ha
    cases ha
    exact hge
  · have : tell (jv jn l1 l2) = ([], 2) := by simp [tell, ha]
    rw [this]
    exact givesN_err hb
set_option maxHeartbeats 400000 in
theorem Bump_new (w : World) (a0 : Option Addr) (n0 cap0 : Nat) (l : RunL) (a b n : Int) (h : RunsIn w a0 n0 cap0 l) :
   Calls Tryz.prog 131 #[.slice a0 n0 cap0, .int .i64 a, .int .i64 b, .int .i64 n] w fun e w' => GivesN w w' e (bumpR l a b n) := by
  cases hf : fine l with
  | false =>
    have hr : bumpR l a b n = ([], 1) := by simp [bumpR, hf]
    rw [hr]
    have hk : chk l = 1 := by simp [chk, hf]
    go_enter Tryz.func131, Tryz.ntmps131
    go_wp2_with fail
    refine (Check_any _ _ _ _ l h).mono ?_
    rintro e w1 ⟨rfl, hb⟩
    rw [hk]
    go_wp2
    go_ret2
    exact givesN_err hb
  | true =>
    have hk : chk l = 0 := by simp [chk, hf]
    cases hs : spn a b with
    | false =>
      have hr : bumpR l a b n = ([], 3) := by simp [bumpR, hf, hs]
      rw [hr]
      go_enter Tryz.func131, Tryz.ntmps131
      go_wp2_with fail
      refine (Check_any _ _ _ _ l h).mono ?_
      rintro e w1 ⟨rfl, hb⟩
      rw [hk]
      go_wp2_with (go_at_call 164; refine (span_any _ _ _).mono ?_; rintro e w' ⟨rfl, rfl⟩; rw [hs])
      go_ret2
      exact givesN_err hb
    | true =>
      cases hn : bdd n with
      | false =>
        have hr : bumpR l a b n = ([], 3) := by simp [bumpR, hf, hn]
        rw [hr]
        go_enter Tryz.func131, Tryz.ntmps131
        go_wp2_with fail
        refine (Check_any _ _ _ _ l h).mono ?_
        rintro e w1 ⟨rfl, hb⟩
        rw [hk]
        go_wp2_with (first | (go_at_call 164; refine (span_any _ _ _).mono ?_; rintro e w' ⟨rfl, rfl⟩; rw [hs]) | (go_at_call 152; refine (bounded_any _ _).mono ?_; rintro e w' ⟨rfl, rfl⟩; rw [hn]))
        go_ret2
        exact givesN_err hb
      | true =>
        have hsp := of_decide_eq_true hs
        have hr : bumpR l a b n = tell (jv (fun x y => x + y) l [(0, 0), (a, n), (b, 0)]) := by rw [bump_tell]; simp [bumpR, hf, hs, hn]
        rw [hr]
        have F1 := hid (fine_iff.1 hf)
        have HS := hid hsp
        obtain ⟨r, hr2⟩ : ∃ r, r = tell (jv (fun x y => x + y) l [(0, 0), (a, n), (b, 0)]) := ⟨_, rfl⟩
        rw [← hr2]
        have HR := hid hr2
        clear hr2 hr hf hsp
        go_enter Tryz.func131, Tryz.ntmps131
        go_wp2_with fail
        refine (Check_any _ _ _ _ l h).mono ?_
        rintro e w1 ⟨rfl, hb⟩
        rw [hk]
        go_wp2_with (first | (go_at_call 164; refine (span_any _ _ _).mono ?_; rintro e w' ⟨rfl, rfl⟩; rw [hs]) | (go_at_call 152; refine (bounded_any _ _).mono ?_; rintro e w' ⟨rfl, rfl⟩; rw [hn]))
        have hb2 : Below w'.heap.size w' (w'.alloc (.cells #[.int .i64 0, .int .i64 0, .int .i64 a, .int .i64 n, .int .i64 b, .int .i64 0] 55)) := (Below.refl _ _).alloc (Nat.le_refl _) _
        have hl := lay_givesN 166 _ joins54 _ a0 (some ⟨w'.heap.size, 0, none⟩) n0 cap0 3 3 l [(0, 0), (a, n), (b, 0)] ((h.later hb).later hb2) (runs_lit w' [(0, 0), (a, n), (b, 0)] _ 3 rfl rfl (by simp)) F1.out.rises (more_rises HS.out.1 HS.out.2.1) (fun i hi => F1.out.bdd (by rw [← h.len]; exact hi)) (fun i hi => by
          match i, hi with
          | 0, _ => rfl
          | 1, _ => exact hn
          | 2, _ => rfl)
        rw [← HR.out] at hl
        refine hl.mono ?_
        clear hl
        rintro e w3 ⟨a', n', cap', rfl, hr, hb3, hnew⟩
        go_wp2
        go_ret2
        exact ⟨a', n', cap', rfl, hr, below_from (below_from hb hb2) hb3, fun b off e => by have h1 := hnew b off e; have h2 := hb.size; simp at h1; omega⟩
end Go.Proofs.YtckpdfkobdgjeaaGreatDoor
namespace Go.Proofs.YtckpdfkobdgjeaaGreatDoor
theorem take_next (l : RunL) (c : Nat) (h : c < l.length) : l.take (c + 1) = l.take c ++ [(rAt l c, rN l c)] := by
  have e : (rAt l c, rN l c) = l[c] := by simp [rAt, rN, List.getD, h]
  rw [List.take_succ_eq_append_getElem h, e]
theorem fold_take {l : RunL} (hF : Fine l) : ∀ n, ∃ c, c ≤ l.length ∧ foldTo (vals l) n = l.take c ∧ (∀ i, i < c → rAt l i < n) ∧ (c < l.length → (n : Int) ≤ rAt l c)
  | 0 => ⟨0, Nat.zero_le _, by simp [foldTo], fun i hi => by omega, fun _ => by rw [hF.at0]; exact Int.le_refl _⟩
  | n + 1 => by
    obtain ⟨c, h1, h2, h3, h4⟩ := fold_take hF n
    have hp := hF.1
    by_cases hA : c < l.length ∧ rAt l c = n
    · obtain ⟨g1, g2⟩ := hA
      have R1 : Reached l (n : Int) c := ⟨g1, by omega, fun h => by have := hF.lt h; omega⟩
      have v1 : vals l n = rN l c := (R1.val hF.rises).symm
      have hc : n = 0 ∨ vals l (n - 1) ≠ vals l n := by
        by_cases e : n = 0
        · exact Or.inl e
        · refine Or.inr ?_
          have c1 : 1 ≤ c := by
            by_cases e1 : c = 0
            · subst e1; rw [hF.at0] at g2; omega
            · omega
          have R2 : Reached l ((n - 1 : Nat) : Int) (c - 1) := ⟨by omega, by have := h3 (c - 1) (by omega); omega, fun _ => by rw [show c - 1 + 1 = c from by omega]; omega⟩
          have v2 : vals l (n - 1) = rN l (c - 1) := (R2.val hF.rises).symm
          rw [v1, v2]
          have := hF.ne (i := c - 1) (by omega)
          rw [show c - 1 + 1 = c from by omega] at this
          exact fun q => this q.symm
      refine ⟨c + 1, g1, ?_, fun i hi => ?_, fun h => ?_⟩
      · rw [foldTo, if_pos hc, h2, take_next l c g1, v1, g2]
      · by_cases e : i = c
        · subst e; omega
        · have := h3 i (by omega); omega
      · have := hF.lt h; omega
    · have g : c < l.length → (n : Int) < rAt l c := fun h => by
        have := h4 h
        by_cases e : rAt l c = n
        · exact absurd ⟨h, e⟩ hA
        · omega
      have c1 : 1 ≤ c := by
        by_cases e1 : c = 0
        · subst e1
          have := g hp
          rw [hF.at0] at this
          omega
        · omega
      have n1 : 1 ≤ n := by
        have := h3 0 (by omega)
        rw [hF.at0] at this
        omega
      have R1 : Reached l (n : Int) (c - 1) := ⟨by omega, by have := h3 (c - 1) (by omega); omega, fun h => by rw [show c - 1 + 1 = c from by omega] at h ⊢; exact g h⟩
      have R2 : Reached l ((n - 1 : Nat) : Int) (c - 1) := ⟨by omega, by have := h3 (c - 1) (by omega); omega, fun h => by rw [show c - 1 + 1 = c from by omega] at h ⊢; have := g h; omega⟩
      have v1 : vals l n = rN l (c - 1) := (R1.val hF.rises).symm
      have v2 : vals l (n - 1) = rN l (c - 1) := (R2.val hF.rises).symm
      refine ⟨c, h1, ?_, fun i hi => by have := h3 i hi; omega, fun h => by have := g h; omega⟩
      rw [foldTo, if_neg ?_, h2]
      rintro (e | e)
      · omega
      · exact e (by rw [v1, v2])
theorem fold_self {l : RunL} (hF : Fine l) : foldTo (vals l) 48 = l := by
  obtain ⟨c, h1, h2, h3, h4⟩ := fold_take hF 48
  have : c = l.length := by
    by_cases e : c < l.length
    · have := h4 e; have := hF.below e; omega
    · omega
  rw [h2, this, List.take_length]
theorem joinR_ok {jn : Int → Int → Int} {l1 l2 r : RunL} (h : joinR jn l1 l2 = (r, 0)) : Fine l1 ∧ Fine l2 ∧ allTo (jv jn l1 l2) 48 = true ∧ r = foldTo (jv jn l1 l2) 48 := by
  unfold joinR at h
  cases hf : (fine l1 && fine l2) with
  | false => rw [hf] at h; simp at h
  | true =>
    rw [hf] at h
    rw [Bool.and_eq_true] at hf
    simp only [if_true, tell] at h
    cases ha : allTo (jv jn l1 l2) 48 with
    | false => rw [ha] at h; simp at h
    | true =>
      rw [ha] at h
      simp at h
      exact ⟨fine_iff.1 hf.1, fine_iff.1 hf.2, rfl, h.symm⟩
theorem joinR_val {jn : Int → Int → Int} {l1 l2 r : RunL} (h : joinR jn l1 l2 = (r, 0)) (t : Nat) (ht : t < 48) : vals r t = jn (vals l1 t) (vals l2 t) := by
  obtain ⟨_, _, ha, rfl⟩ := joinR_ok h
  exact foldTo_val _ ha t ht
theorem back {f g x y : RunL} (h1 : joinR (fun x y => x + y) f g = (x, 0)) (h2 : joinR (fun x y => x - y) x g = (y, 0)) : y = f := by
  obtain ⟨hf, _, _, _⟩ := joinR_ok h1
  obtain ⟨_, _, _, rfl⟩ := joinR_ok h2
  rw [← fold_self hf]
  apply foldTo_congr
  intro t ht
  show vals x t - vals g t = vals f t
  rw [joinR_val h1 t ht]
  omega
end Go.Proofs.YtckpdfkobdgjeaaGreatDoor
