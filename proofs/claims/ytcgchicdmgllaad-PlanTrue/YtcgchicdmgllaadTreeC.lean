/- Queues in memory; contracts of the library's ContainsFunc and IndexFunc on queues, whatever is asked of one, and of tree.badParent. -/
import Derived.Test.YtcgchicdmgllaadTreeA
import Derived.Test.YtcgchicdmgllaadTreeB
namespace Go.Proofs.Ytcgchicdmgllaad
open Go.RowKit

/-- a queue: its name, its Parent, and its Cap as a slice of runs -/
structure Qu where
  name : ByteArray
  parent : Int
  ca : Option Addr
  cn : Nat
  cc : Nat
  runs : RunL
abbrev QL := List Qu
def qu (l : QL) (i : Nat) : Qu := l.getD i ⟨ByteArray.empty, 0, none, 0, 0, []⟩

structure QsIn (w : World) (a : Option Addr) (n cap : Nat) (l : QL) : Prop where
  len : n = l.length
  le : n ≤ cap
  capb : cap ≤ 9223372036854775807
  cells : 0 < n → ∃ b off, a = some ⟨b, off, none⟩ ∧ ∀ i, i < n → w.cell? ⟨b, off + i * 3, none⟩ = some (.string (qu l i).name) ∧ w.cell? ⟨b, off + i * 3 + 1, none⟩ = some (.int .i64 (qu l i).parent) ∧ w.cell? ⟨b, off + i * 3 + 2, none⟩ = some (.slice (qu l i).ca (qu l i).cn (qu l i).cc)
  caps : ∀ i, i < n → RunsIn w (qu l i).ca (qu l i).cn (qu l i).cc (qu l i).runs
  names : ∀ i, i < n → (qu l i).name.size ≤ 9223372036854775807

theorem QsIn.later {w w' : World} {a : Option Addr} {n cap : Nat} {l : QL} (h : QsIn w a n cap l) (hb : Below w.heap.size w w') : QsIn w' a n cap l := by
  refine ⟨h.len, h.le, h.capb, fun hp => ?_, fun i hi => (h.caps i hi).later hb, h.names⟩
  obtain ⟨b, off, ha, hc⟩ := h.cells hp
  exact ⟨b, off, ha, fun i hi => ⟨cell_later hb (hc i hi).1, cell_later hb (hc i hi).2.1, cell_later hb (hc i hi).2.2⟩⟩

/-- all that are asked answer yes, below n -/
def allQ (p : Qu → Bool) (l : QL) : Nat → Bool
  | 0 => true
  | k + 1 => allQ p l k && p (qu l k)
theorem allQ_false {p : Qu → Bool} {l : QL} {k : Nat} (h : p (qu l k) = false) : ∀ n, k < n → allQ p l n = false
  | 0, hn => by omega
  | n + 1, hn => by
    by_cases e : k = n
    · subst e; simp [allQ, h]
    · rw [allQ, allQ_false h n (by omega)]; rfl
theorem allQ_iff {p : Qu → Bool} {l : QL} : ∀ {n : Nat}, allQ p l n = true ↔ ∀ k, k < n → p (qu l k) = true
  | 0 => by simp [allQ]
  | n + 1 => by
    simp only [allQ, Bool.and_eq_true, allQ_iff (n := n)]
    constructor
    · rintro ⟨h1, h2⟩ k hk
      by_cases e : k = n
      · subst e; exact h2
      · exact h1 k (by omega)
    · intro h
      exact ⟨fun k hk => h k (by omega), h n (by omega)⟩

/-- what a function literal asks of a queue -/
def AsksNot (k : Nat) (p : Qu → Bool) : Prop :=
  (∀ (args : Array Value) (w : World), (callFunc k args).run Try.prog w = .ok (.enter k args) w) ∧
  ∀ (q : Qu) (w : World), q.name.size ≤ 9223372036854775807 → RunsIn w q.ca q.cn q.cc q.runs → Calls Try.prog k #[.agg #[.string q.name, .int .i64 q.parent, .slice q.ca q.cn q.cc]] w fun e w' => e = .returned (.bool (!p q)) ∧ Below w.heap.size w w'

theorem asks61 : AsksNot 82 (fun q => isName q.name) := by
  refine ⟨fun args w => by go_simp, fun q w hn hr => ?_⟩
  go_enter Try.func82, Try.ntmps82
  go_wp2_with (go_at_call 83; refine (Name_any _ _ hn).mono ?_; rintro e w' ⟨rfl, rfl⟩)
  go_ret
  exact ⟨rfl, (Below.refl _ _).alloc (Nat.le_refl _) _⟩
theorem asks64 : AsksNot 86 (fun q => capFine q.runs) := by
  refine ⟨fun args w => by go_simp, fun q w hn hr => ?_⟩
  have hb : Below w.heap.size w (w.alloc (.cells #[.string q.name, .int .i64 q.parent, .slice q.ca q.cn q.cc] 72)) := (Below.refl _ _).alloc (Nat.le_refl _) _
  have HB := hid hb
  clear hb
  go_enter Try.func86, Try.ntmps86
  go_wp2_with fail
  refine (badCap_any _ q.ca q.cn q.cc q.runs (hr.later HB.out)).mono ?_
  rintro e w1 ⟨rfl, hb1⟩
  go_wp2
  go_ret
  exact ⟨rfl, below_from HB.out hb1⟩

set_option maxHeartbeats 400000 in
theorem IndexQs_some (k : Nat) (p : Qu → Bool) (hk : AsksNot k p) (w : World) (b off n cap : Nat) (l : QL) (h : QsIn w (some ⟨b, off, none⟩) n cap l) (hp : 0 < n) :
    Calls Try.prog 95 #[.slice (some ⟨b, off, none⟩) n cap, .func (.func k) #[] #[]] w fun e w' => ∃ r : Int, e = .returned (.int .i64 r) ∧ (decide (0 ≤ r)) = (!allQ p l n) ∧ Below w.heap.size w w' := by
  have HN := hid h.len
  have hle := h.le
  have hbd := h.capb
  obtain ⟨b', off', e, hc⟩ := h.cells hp
  cases e
  have HC := hid hc
  clear hc
  obtain ⟨hkf, hkc⟩ := hk
  have HK := hid hkc
  clear hkc
  go_enter Try.func95, Try.ntmps95
  go_wp2
  go_loopw [5, 8] (fun _ st wr => ∃ k : Nat, st = .int .i64 k ∧ k ≤ n ∧ allQ p l k = true ∧ Below w.heap.size w wr) (fun _ st _ => n - (intOf st).toNat)
  case atStart => exact ⟨0, rfl, by omega, rfl, Below.refl _ _⟩
  case round =>
    obtain ⟨j, rfl, hj, hall, hbel⟩ := hrel
    have HA := hid hall
    have HB := hid hbel
    clear hall hbel
    by_cases hlt : j < n
    · have hlt' : (j : Int) < n := by omega
      have c0 := cell_later HB.out (HC.out j hlt).1
      have c1 := cell_later HB.out (HC.out j hlt).2.1
      have c2 := cell_later HB.out (HC.out j hlt).2.2
      cases g : p (qu l j) with
      | false =>
        go_wp2_with fail
        refine (HK.out (qu l j) wr (h.names j hlt) ((h.caps j hlt).later HB.out)).mono ?_
        rintro e w1 ⟨rfl, hb1⟩
        rw [g]
        go_wp2
        go_ret
        exact ⟨_, rfl, by rw [allQ_false g n hlt]; simp, below_from HB.out hb1⟩
      | true =>
        go_wp2_with fail
        refine (HK.out (qu l j) wr (h.names j hlt) ((h.caps j hlt).later HB.out)).mono ?_
        rintro e w1 ⟨rfl, hb1⟩
        have HB1 := hid hb1
        clear hb1
        rw [g]
        go_wp2
        go_roundw
        case rel => exact ⟨j + 1, by go_num, by omega, by rw [allQ, HA.out, g]; rfl, below_from HB.out HB1.out⟩
        case measure => simp [intOf]; omega
    · obtain rfl : j = n := by omega
      go_wp2
      go_ret
      exact ⟨_, rfl, by rw [HA.out]; rfl, HB.out⟩
theorem ContainsQs_any (k : Nat) (p : Qu → Bool) (hk : AsksNot k p) (w : World) (a : Option Addr) (n cap : Nat) (l : QL) (h : QsIn w a n cap l) (hp : 0 < n) :
    Calls Try.prog 81 #[.slice a n cap, .func (.func k) #[] #[]] w fun e w' => e = .returned (.bool (!allQ p l n)) ∧ Below w.heap.size w w' := by
  obtain ⟨b, off, rfl, _⟩ := h.cells hp
  have HK := hid hk
  clear hk
  go_enter Try.func81, Try.ntmps81
  go_wp2_with fail
  refine (IndexQs_some k p HK.out w b off n cap l h hp).mono ?_
  rintro e w1 ⟨r, rfl, hr, hb⟩
  have HR := hid hr
  clear hr
  go_wp2
  go_ret
  exact ⟨ret_bool HR.out, hb⟩

/-- each Parent is -1, or a queue ahead -/
def parTo (l : QL) : Nat → Bool
  | 0 => true
  | k + 1 => parTo l k && decide (-1 ≤ (qu l k).parent ∧ (qu l k).parent < k)
theorem parTo_false {l : QL} {k : Nat} (h : ¬ (-1 ≤ (qu l k).parent ∧ (qu l k).parent < k)) : ∀ n, k < n → parTo l n = false
  | 0, hn => by omega
  | n + 1, hn => by
    by_cases e : k = n
    · subst e; rw [parTo, decide_eq_false h, Bool.and_false]
    · rw [parTo, parTo_false h n (by omega)]; rfl
theorem parTo_iff {l : QL} : ∀ {n : Nat}, parTo l n = true ↔ ∀ k, k < n → -1 ≤ (qu l k).parent ∧ (qu l k).parent < k
  | 0 => by simp [parTo]
  | n + 1 => by
    simp only [parTo, Bool.and_eq_true, parTo_iff (n := n), decide_eq_true_eq]
    constructor
    · rintro ⟨h1, h2⟩ k hk
      by_cases e : k = n
      · subst e; exact h2
      · exact h1 k (by omega)
    · intro h
      exact ⟨fun k hk => h k (by omega), h n (by omega)⟩

set_option maxHeartbeats 400000 in
theorem badParent_any (w : World) (a : Option Addr) (n cap : Nat) (l : QL) (h : QsIn w a n cap l) (hp : 0 < n) :
    Calls Try.prog 85 #[.slice a n cap] w fun e w' => e = .returned (.bool (!parTo l n)) ∧ Below w.heap.size w w' := by
  have hle := h.le
  have hbd := h.capb
  obtain ⟨b, off, rfl, hc⟩ := h.cells hp
  have HC := hid hc
  clear hc
  go_enter Try.func85, Try.ntmps85
  go_wp2
  go_loopw [3, 4, 7] (fun _ _ st wr => ∃ k : Nat, st = .int .i64 k ∧ k ≤ n ∧ parTo l k = true ∧ Below w.heap.size w wr) (fun _ _ st _ => n - (intOf st).toNat)
  case atStart => exact ⟨0, rfl, by omega, rfl, Below.refl _ _⟩
  case round =>
    obtain ⟨j, rfl, hj, hall, hbel⟩ := hrel
    have HA := hid hall
    have HB := hid hbel
    have hsz : w.heap.size ≤ wr.heap.size := hbel.size
    clear hall hbel
    by_cases hlt : j < n
    · have hlt' : (j : Int) < n := by omega
      have c0 := cell_later HB.out (HC.out j hlt).1
      have c1 := cell_later HB.out (HC.out j hlt).2.1
      have c2 := cell_later HB.out (HC.out j hlt).2.2
      generalize hq : qu l j = q at c0 c1 c2
      have HQ := hid hq
      clear hq
      by_cases g1 : q.parent < -1
      · go_wp2
        go_ret
        exact ⟨ret_bool (by rw [parTo_false (k := j) (by rw [HQ.out]; omega) n hlt]; rfl), HB.out.alloc hsz _⟩
      by_cases g2 : (j : Int) ≤ q.parent
      · go_wp2
        go_ret
        exact ⟨ret_bool (by rw [parTo_false (k := j) (by rw [HQ.out]; omega) n hlt]; rfl), HB.out.alloc hsz _⟩
      · go_wp2
        go_roundw
        case rel => exact ⟨j + 1, by go_num, by omega, by rw [parTo, HA.out, HQ.out, decide_eq_true (by omega)]; rfl, HB.out.alloc hsz _⟩
        case measure => simp [intOf]; omega
    · obtain rfl : j = n := by omega
      go_wp2
      go_ret
      exact ⟨ret_bool (by rw [HA.out]; rfl), HB.out⟩
end Go.Proofs.Ytcgchicdmgllaad
