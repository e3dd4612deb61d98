/- Several texts in one: TreeA, TreeB, TreeC, TreeD, TreeE, TreeF, TreeG, TreeH, TreeI, TreeJ. -/
import Derived.Test.YtckpdfkobdgjeaaDoorKRunsAll
import Derived.Maps.Own
import Derived.Maps.OwnOps
import Derived.Maps.Views
import Derived.Deep.OwnRows
import Derived.RangeFuncNested
import Derived.RangeFuncBox
import Derived.RangeFuncLeaves
import Derived.Shelf.Abstract
import Derived.WalkKit
import Derived.OwnWalkIn
import Derived.TacticsInMore
import Derived.LoopNIn
import Derived.LoopIn
import Derived.Maps.AppendAt
namespace Go.Proofs.YtckpdfkobdgjeaaDoor
open Go.RowKit
def byteAt (s : ByteArray) (k : Nat) : Nat := if h : k < s.size then s[k].toNat else 0
def azB (n : Nat) : Bool := decide (97 ≤ n ∧ n ≤ 122)
def azTo (s : ByteArray) : Nat → Bool
  | 0 => true
  | k + 1 => azTo s k && azB (byteAt s k)
def isName (s : ByteArray) : Bool := decide (1 ≤ s.size ∧ s.size ≤ 8) && azTo s s.size
theorem azTo_false {s : ByteArray} {k : Nat} (h : azB (byteAt s k) = false) : ∀ n, k < n → azTo s n = false
  | 0, hn => by omega
  | n + 1, hn => by
    by_cases e : k = n
    · subst e; simp [azTo, h]
    · rw [azTo, azTo_false h n (by omega)]; rfl
theorem name_short {s : ByteArray} (h : s.size < 1 ∨ 8 < s.size) : isName s = false := by
  have : ¬ (1 ≤ s.size ∧ s.size ≤ 8) := by omega
  simp [isName, this]
theorem name_bad {s : ByteArray} {k : Nat} (hk : k < s.size) (h : azB (byteAt s k) = false) : isName s = false := by
  rw [isName, azTo_false h _ hk]; simp
theorem name_good {s : ByteArray} (h1 : 1 ≤ s.size) (h2 : s.size ≤ 8) (h : azTo s s.size = true) : isName s = true := by
  simp [isName, h, h1, h2]
theorem az_low {s : ByteArray} {k : Nat} (hk : k < s.size) (h : (s[k].toNat : Int) < 97) : azB (byteAt s k) = false := by
  rw [byteAt, dif_pos hk]; simp [azB]; omega
theorem az_high {s : ByteArray} {k : Nat} (hk : k < s.size) (h : (122 : Int) < s[k].toNat) : azB (byteAt s k) = false := by
  rw [byteAt, dif_pos hk]; simp [azB]; omega
theorem az_mid {s : ByteArray} {k : Nat} (hk : k < s.size) (h1 : ¬ (s[k].toNat : Int) < 97) (h2 : ¬ (122 : Int) < s[k].toNat) : azB (byteAt s k) = true := by
  rw [byteAt, dif_pos hk]; simp [azB]; omega
theorem Name_any (s : ByteArray) (w : World) (hs : s.size ≤ 9223372036854775807) : Calls Tryd.prog 28 #[.string s] w fun e w' => e = .returned (.bool (isName s)) ∧ w' = w := by
  by_cases h1 : s.size < 1
  · go_enter Tryd.func28, Tryd.ntmps28
    go_wp2
    go_ret
    exact ⟨ret_bool (name_short (Or.inl h1)).symm, rfl⟩
  by_cases h2 : 8 < s.size
  · go_enter Tryd.func28, Tryd.ntmps28
    go_wp2
    go_ret
    exact ⟨ret_bool (name_short (Or.inr h2)).symm, rfl⟩
  have h1' : (1 : Int) ≤ s.size := by omega
  have h2' : (s.size : Int) ≤ 8 := by omega
  go_enter Tryd.func28, Tryd.ntmps28
  go_wp2
  go_loop [3, 14] (fun _ st => ∃ k : Nat, st = .int .i64 k ∧ k ≤ s.size ∧ azTo s k = true) (fun _ st => s.size - (intOf st).toNat)
  case atStart => exact ⟨0, rfl, by omega, rfl⟩
  case round =>
    obtain ⟨k, rfl, hk, haz⟩ := hrel
    have HA : Hid (azTo s k = true) := haz
    clear haz
    by_cases hlt : k < s.size
    · have hlt' : (k : Int) < s.size := by omega
      by_cases g1 : (s[k].toNat : Int) < 97
      · have AZ : Hid (azB (byteAt s k) = false) := az_low hlt g1
        go_wp2
        go_ret
        exact ⟨ret_bool (name_bad hlt AZ.out).symm, rfl⟩
      by_cases g2 : (122 : Int) < s[k].toNat
      · have AZ : Hid (azB (byteAt s k) = false) := az_high hlt g2
        go_wp2
        go_ret
        exact ⟨ret_bool (name_bad hlt AZ.out).symm, rfl⟩
      · have AZ : Hid (azB (byteAt s k) = true) := az_mid hlt g1 g2
        go_wp2
        go_round
        case rel => exact ⟨k + 1, by go_num, by omega, by rw [azTo, HA.out, AZ.out]; rfl⟩
        case measure => simp [intOf]; omega
    · obtain rfl : k = s.size := by omega
      go_wp2
      go_ret
      exact ⟨ret_bool (name_good (by omega) (by omega) HA.out).symm, rfl⟩
end Go.Proofs.YtckpdfkobdgjeaaDoor
namespace Go.Proofs.YtckpdfkobdgjeaaDoor
open Go.RowKit
def capOk (x : Int) : Bool := decide (0 ≤ x ∧ x ≤ 50)
def capTo (l : RunL) : Nat → Bool
  | 0 => true
  | k + 1 => capTo l k && capOk (rN l k)
def capFine (l : RunL) : Bool := fine l && capTo l l.length
theorem capTo_false {l : RunL} {k : Nat} (h : capOk (rN l k) = false) : ∀ n, k < n → capTo l n = false
  | 0, hn => by omega
  | n + 1, hn => by
    by_cases e : k = n
    · subst e; simp [capTo, h]
    · rw [capTo, capTo_false h n (by omega)]; rfl
theorem badCap1_any (x y : Int) (w : World) : Calls Tryd.prog 45 #[.agg #[.int .i64 x, .int .i64 y]] w fun e w' => e = .returned (.bool (!capOk y)) ∧ Below w.heap.size w w' := by
  go_enter Tryd.func45, Tryd.ntmps45
  go_wp2
  all_goals
    go_ret
    refine ⟨ret_bool ?_, (Below.refl _ _).alloc (Nat.le_refl _) _⟩
    rw [Bool.eq_iff_iff]
    simp [capOk]
    try omega
set_option maxHeartbeats 400000 in
theorem IndexRuns_some (w : World) (b off n cap : Nat) (l : RunL) (h : RunsIn w (some ⟨b, off, none⟩) n cap l) (hp : 0 < n) :
    Calls Tryd.prog 55 #[.slice (some ⟨b, off, none⟩) n cap, .func (.func 45) #[] #[]] w fun e w' => ∃ r : Int, e = .returned (.int .i64 r) ∧ (decide (0 ≤ r)) = (!capTo l n) ∧ Below w.heap.size w w' := by
  have HN := hid h.len
  have hle := h.le
  have hbd := h.bound
  obtain ⟨b', off', e, hc⟩ := h.cells hp
  cases e
  have HC := hid hc
  clear hc
  go_enter Tryd.func55, Tryd.ntmps55
  go_wp2
  go_loopw [5, 8] (fun _ st wr => ∃ k : Nat, st = .int .i64 k ∧ k ≤ n ∧ capTo l k = true ∧ Below w.heap.size w wr) (fun _ st _ => n - (intOf st).toNat)
  case atStart => exact ⟨0, rfl, by omega, rfl, Below.refl _ _⟩
  case round =>
    obtain ⟨k, rfl, hk, hcap, hbel⟩ := hrel
    have HA := hid hcap
    have HB := hid hbel
    clear hcap hbel
    by_cases hlt : k < n
    · have hlt' : (k : Int) < n := by omega
      have c0 := cell_later HB.out (HC.out k hlt).1
      have c1 := cell_later HB.out (HC.out k hlt).2
      cases g : capOk (rN l k) with
      | false =>
        go_wp2_with (go_at_call 45; refine (badCap1_any _ _ _).mono ?_; rintro e w1 ⟨rfl, hb1⟩; rw [g])
        go_ret
        exact ⟨_, rfl, by rw [capTo_false g n hlt]; simp, below_from HB.out hb1⟩
      | true =>
        go_wp2_with (go_at_call 45; refine (badCap1_any _ _ _).mono ?_; rintro e w1 ⟨rfl, hb1⟩; have HB1 := hid hb1; clear hb1; rw [g])
        go_roundw
        case rel => exact ⟨k + 1, by go_num, by omega, by rw [capTo, HA.out, g]; rfl, below_from HB.out HB1.out⟩
        case measure => simp [intOf]; omega
    · obtain rfl : k = n := by omega
      go_wp2
      go_ret
      exact ⟨_, rfl, by rw [HA.out]; rfl, HB.out⟩
theorem IndexRuns_none (w : World) (a : Option Addr) (cap : Nat) (k : Nat) :
    Calls Tryd.prog 55 #[.slice a 0 cap, .func (.func k) #[] #[]] w fun e w' => e = .returned (.int .i64 (-1)) ∧ w' = w := by
  go_enter Tryd.func55, Tryd.ntmps55
  go_wp2
  go_loop [5, 8] (fun _ st => st = .int .i64 0) (fun _ _ => 0)
  case atStart => rfl
  case round =>
    subst hrel
    go_wp2
    go_ret
    exact ⟨rfl, rfl⟩
theorem IndexRuns_any (w : World) (a : Option Addr) (n cap : Nat) (l : RunL) (h : RunsIn w a n cap l) :
    Calls Tryd.prog 55 #[.slice a n cap, .func (.func 45) #[] #[]] w fun e w' => ∃ r : Int, e = .returned (.int .i64 r) ∧ (decide (0 ≤ r)) = (!capTo l n) ∧ Below w.heap.size w w' := by
  by_cases hp : 0 < n
  · obtain ⟨b, off, rfl, _⟩ := h.cells hp
    exact IndexRuns_some w b off n cap l h hp
  · obtain rfl : n = 0 := by omega
    refine (IndexRuns_none w a cap 45).mono ?_
    rintro e w' ⟨rfl, rfl⟩
    exact ⟨_, rfl, rfl, Below.refl _ _⟩
theorem ContainsRuns_any (w : World) (a : Option Addr) (n cap : Nat) (l : RunL) (h : RunsIn w a n cap l) :
    Calls Tryd.prog 44 #[.slice a n cap, .func (.func 45) #[] #[]] w fun e w' => e = .returned (.bool (!capTo l n)) ∧ Below w.heap.size w w' := by
  go_enter Tryd.func44, Tryd.ntmps44
  go_wp2_with fail
  refine (IndexRuns_any w a n cap l h).mono ?_
  rintro e w1 ⟨r, rfl, hr, hb⟩
  have HR := hid hr
  clear hr
  go_wp2
  go_ret
  exact ⟨ret_bool HR.out, hb⟩
theorem badCap_any (w : World) (a : Option Addr) (n cap : Nat) (l : RunL) (h : RunsIn w a n cap l) :
    Calls Tryd.prog 32 #[.slice a n cap] w fun e w' => e = .returned (.bool (!capFine l)) ∧ Below w.heap.size w w' := by
  have HN := hid h.len
  cases hf : fine l with
  | false =>
    have hk : chk l = 1 := by simp [chk, hf]
    have hr : capFine l = false := by simp [capFine, hf]
    rw [hr]
    go_enter Tryd.func32, Tryd.ntmps32
    go_wp2_with fail
    refine (Check_any w a n cap l h).mono ?_
    rintro e w1 ⟨rfl, hb⟩
    rw [hk]
    go_wp2
    go_ret
    exact ⟨rfl, hb⟩
  | true =>
    have hk : chk l = 0 := by simp [chk, hf]
    have hr : capFine l = capTo l n := by rw [capFine, hf, HN.out]; rfl
    rw [hr]
    go_enter Tryd.func32, Tryd.ntmps32
    go_wp2_with fail
    refine (Check_any w a n cap l h).mono ?_
    rintro e w1 ⟨rfl, hb⟩
    rw [hk]
    go_wp2_with fail
    refine (ContainsRuns_any w1 a n cap l (h.later hb)).mono ?_
    rintro e w2 ⟨rfl, hb2⟩
    go_wp2
    go_ret
    exact ⟨rfl, below_from hb hb2⟩
end Go.Proofs.YtckpdfkobdgjeaaDoor
namespace Go.Proofs.YtckpdfkobdgjeaaDoor
open Go.RowKit
structure Qu where
  name : ByteArray
  parent : Int
  ca : Option Addr
  cn : Nat
  cc : Nat
  runs : RunL
abbrev QL := List Qu
def qu (l : QL) (i : Nat) : Qu := l.getD i ⟨ByteArray.empty, 0, none, 0, 0, []⟩
structure QsIn (w : World) (a : Option Addr) (n cap : Nat) (l : QL) : Prop where
  len : n = l.length
  le : n ≤ cap
  capb : cap ≤ 9223372036854775807
  cells : 0 < n → ∃ b off, a = some ⟨b, off, none⟩ ∧ ∀ i, i < n → w.cell? ⟨b, off + i * 3, none⟩ = some (.string (qu l i).name) ∧ w.cell? ⟨b, off + i * 3 + 1, none⟩ = some (.int .i64 (qu l i).parent) ∧ w.cell? ⟨b, off + i * 3 + 2, none⟩ = some (.slice (qu l i).ca (qu l i).cn (qu l i).cc)
  caps : ∀ i, i < n → RunsIn w (qu l i).ca (qu l i).cn (qu l i).cc (qu l i).runs
  names : ∀ i, i < n → (qu l i).name.size ≤ 9223372036854775807
theorem QsIn.later {w w' : World} {a : Option Addr} {n cap : Nat} {l : QL} (h : QsIn w a n cap l) (hb : Below w.heap.size w w') : QsIn w' a n cap l := by
  refine ⟨h.len, h.le, h.capb, fun hp => ?_, fun i hi => (h.caps i hi).later hb, h.names⟩
  obtain ⟨b, off, ha, hc⟩ := h.cells hp
  exact ⟨b, off, ha, fun i hi => ⟨cell_later hb (hc i hi).1, cell_later hb (hc i hi).2.1, cell_later hb (hc i hi).2.2⟩⟩
def allQ (p : Qu → Bool) (l : QL) : Nat → Bool
  | 0 => true
  | k + 1 => allQ p l k && p (qu l k)
theorem allQ_false {p : Qu → Bool} {l : QL} {k : Nat} (h : p (qu l k) = false) : ∀ n, k < n → allQ p l n = false
  | 0, hn => by omega
  | n + 1, hn => by
    by_cases e : k = n
    · subst e; simp [allQ, h]
    · rw [allQ, allQ_false h n (by omega)]; rfl
theorem allQ_iff {p : Qu → Bool} {l : QL} : ∀ {n : Nat}, allQ p l n = true ↔ ∀ k, k < n → p (qu l k) = true
  | 0 => by simp [allQ]
  | n + 1 => by
    simp only [allQ, Bool.and_eq_true, allQ_iff (n := n)]
    constructor
    · rintro ⟨h1, h2⟩ k hk
      by_cases e : k = n
      · subst e; exact h2
      · exact h1 k (by omega)
    · intro h
      exact ⟨fun k hk => h k (by omega), h n (by omega)⟩
def AsksNot (k : Nat) (p : Qu → Bool) : Prop :=
  (∀ (args : Array Value) (w : World), (callFunc k args).run Tryd.prog w = .ok (.enter k args) w) ∧
  ∀ (q : Qu) (w : World), q.name.size ≤ 9223372036854775807 → RunsIn w q.ca q.cn q.cc q.runs → Calls Tryd.prog k #[.agg #[.string q.name, .int .i64 q.parent, .slice q.ca q.cn q.cc]] w fun e w' => e = .returned (.bool (!p q)) ∧ Below w.heap.size w w'
theorem asks61 : AsksNot 27 (fun q => isName q.name) := by
  refine ⟨fun args w => by go_simp, fun q w hn hr => ?_⟩
  go_enter Tryd.func27, Tryd.ntmps27
  go_wp2_with (go_at_call 28; refine (Name_any _ _ hn).mono ?_; rintro e w' ⟨rfl, rfl⟩)
  go_ret
  exact ⟨rfl, (Below.refl _ _).alloc (Nat.le_refl _) _⟩
theorem asks64 : AsksNot 31 (fun q => capFine q.runs) := by
  refine ⟨fun args w => by go_simp, fun q w hn hr => ?_⟩
  have hb : Below w.heap.size w (w.alloc (.cells #[.string q.name, .int .i64 q.parent, .slice q.ca q.cn q.cc] 41)) := (Below.refl _ _).alloc (Nat.le_refl _) _
  have HB := hid hb
  clear hb
  go_enter Tryd.func31, Tryd.ntmps31
  go_wp2_with fail
  refine (badCap_any _ q.ca q.cn q.cc q.runs (hr.later HB.out)).mono ?_
  rintro e w1 ⟨rfl, hb1⟩
  go_wp2
  go_ret
  exact ⟨rfl, below_from HB.out hb1⟩
set_option maxHeartbeats 400000 in
theorem IndexQs_some (k : Nat) (p : Qu → Bool) (hk : AsksNot k p) (w : World) (b off n cap : Nat) (l : QL) (h : QsIn w (some ⟨b, off, none⟩) n cap l) (hp : 0 < n) :
    Calls Tryd.prog 39 #[.slice (some ⟨b, off, none⟩) n cap, .func (.func k) #[] #[]] w fun e w' => ∃ r : Int, e = .returned (.int .i64 r) ∧ (decide (0 ≤ r)) = (!allQ p l n) ∧ Below w.heap.size w w' := by
  have HN := hid h.len
  have hle := h.le
  have hbd := h.capb
  obtain ⟨b', off', e, hc⟩ := h.cells hp
  cases e
  have HC := hid hc
  clear hc
  obtain ⟨hkf, hkc⟩ := hk
  have HK := hid hkc
  clear hkc
  go_enter Tryd.func39, Tryd.ntmps39
  go_wp2
  go_loopw [5, 8] (fun _ st wr => ∃ k : Nat, st = .int .i64 k ∧ k ≤ n ∧ allQ p l k = true ∧ Below w.heap.size w wr) (fun _ st _ => n - (intOf st).toNat)
  case atStart => exact ⟨0, rfl, by omega, rfl, Below.refl _ _⟩
  case round =>
    obtain ⟨j, rfl, hj, hall, hbel⟩ := hrel
    have HA := hid hall
    have HB := hid hbel
    clear hall hbel
    by_cases hlt : j < n
    · have hlt' : (j : Int) < n := by omega
      have c0 := cell_later HB.out (HC.out j hlt).1
      have c1 := cell_later HB.out (HC.out j hlt).2.1
      have c2 := cell_later HB.out (HC.out j hlt).2.2
      cases g : p (qu l j) with
      | false =>
        go_wp2_with fail
        refine (HK.out (qu l j) wr (h.names j hlt) ((h.caps j hlt).later HB.out)).mono ?_
        rintro e w1 ⟨rfl, hb1⟩
        rw [g]
        go_wp2
        go_ret
        exact ⟨_, rfl, by rw [allQ_false g n hlt]; simp, below_from HB.out hb1⟩
      | true =>
        go_wp2_with fail
        refine (HK.out (qu l j) wr (h.names j hlt) ((h.caps j hlt).later HB.out)).mono ?_
        rintro e w1 ⟨rfl, hb1⟩
        have HB1 := hid hb1
        clear hb1
        rw [g]
        go_wp2
        go_roundw
        case rel => exact ⟨j + 1, by go_num, by omega, by rw [allQ, HA.out, g]; rfl, below_from HB.out HB1.out⟩
        case measure => simp [intOf]; omega
    · obtain rfl : j = n := by omega
      go_wp2
      go_ret
      exact ⟨_, rfl, by rw [HA.out]; rfl, HB.out⟩
theorem ContainsQs_any (k : Nat) (p : Qu → Bool) (hk : AsksNot k p) (w : World) (a : Option Addr) (n cap : Nat) (l : QL) (h : QsIn w a n cap l) (hp : 0 < n) :
    Calls Tryd.prog 26 #[.slice a n cap, .func (.func k) #[] #[]] w fun e w' => e = .returned (.bool (!allQ p l n)) ∧ Below w.heap.size w w' := by
  obtain ⟨b, off, rfl, _⟩ := h.cells hp
  have HK := hid hk
  clear hk
  go_enter Tryd.func26, Tryd.ntmps26
  go_wp2_with fail
  refine (IndexQs_some k p HK.out w b off n cap l h hp).mono ?_
  rintro e w1 ⟨r, rfl, hr, hb⟩
  have HR := hid hr
  clear hr
  go_wp2
  go_ret
  exact ⟨ret_bool HR.out, hb⟩
def parTo (l : QL) : Nat → Bool
  | 0 => true
  | k + 1 => parTo l k && decide (-1 ≤ (qu l k).parent ∧ (qu l k).parent < k)
theorem parTo_false {l : QL} {k : Nat} (h : ¬ (-1 ≤ (qu l k).parent ∧ (qu l k).parent < k)) : ∀ n, k < n → parTo l n = false
  | 0, hn => by omega
  | n + 1, hn => by
    by_cases e : k = n
    · subst e; rw [parTo, decide_eq_false h, Bool.and_false]
    · rw [parTo, parTo_false h n (by omega)]; rfl
theorem parTo_iff {l : QL} : ∀ {n : Nat}, parTo l n = true ↔ ∀ k, k < n → -1 ≤ (qu l k).parent ∧ (qu l k).parent < k
  | 0 => by simp [parTo]
  | n + 1 => by
    simp only [parTo, Bool.and_eq_true, parTo_iff (n := n), decide_eq_true_eq]
    constructor
    · rintro ⟨h1, h2⟩ k hk
      by_cases e : k = n
      · subst e; exact h2
      · exact h1 k (by omega)
    · intro h
      exact ⟨fun k hk => h k (by omega), h n (by omega)⟩
set_option maxHeartbeats 400000 in
theorem badParent_any (w : World) (a : Option Addr) (n cap : Nat) (l : QL) (h : QsIn w a n cap l) (hp : 0 < n) :
    Calls Tryd.prog 30 #[.slice a n cap] w fun e w' => e = .returned (.bool (!parTo l n)) ∧ Below w.heap.size w w' := by
  have hle := h.le
  have hbd := h.capb
  obtain ⟨b, off, rfl, hc⟩ := h.cells hp
  have HC := hid hc
  clear hc
  go_enter Tryd.func30, Tryd.ntmps30
  go_wp2
  go_loopw [3, 4, 7] (fun _ _ st wr => ∃ k : Nat, st = .int .i64 k ∧ k ≤ n ∧ parTo l k = true ∧ Below w.heap.size w wr) (fun _ _ st _ => n - (intOf st).toNat)
  case atStart => exact ⟨0, rfl, by omega, rfl, Below.refl _ _⟩
  case round =>
    obtain ⟨j, rfl, hj, hall, hbel⟩ := hrel
    have HA := hid hall
    have HB := hid hbel
    have hsz : w.heap.size ≤ wr.heap.size := hbel.size
    clear hall hbel
    by_cases hlt : j < n
    · have hlt' : (j : Int) < n := by omega
      have c0 := cell_later HB.out (HC.out j hlt).1
      have c1 := cell_later HB.out (HC.out j hlt).2.1
      have c2 := cell_later HB.out (HC.out j hlt).2.2
      generalize hq : qu l j = q at c0 c1 c2
      have HQ := hid hq
      clear hq
      by_cases g1 : q.parent < -1
      · go_wp2
        go_ret
        exact ⟨ret_bool (by rw [parTo_false (k := j) (by rw [HQ.out]; omega) n hlt]; rfl), HB.out.alloc hsz _⟩
      by_cases g2 : (j : Int) ≤ q.parent
      · go_wp2
        go_ret
        exact ⟨ret_bool (by rw [parTo_false (k := j) (by rw [HQ.out]; omega) n hlt]; rfl), HB.out.alloc hsz _⟩
      · go_wp2
        go_roundw
        case rel => exact ⟨j + 1, by go_num, by omega, by rw [parTo, HA.out, HQ.out, decide_eq_true (by omega)]; rfl, HB.out.alloc hsz _⟩
        case measure => simp [intOf]; omega
    · obtain rfl : j = n := by omega
      go_wp2
      go_ret
      exact ⟨ret_bool (by rw [HA.out]; rfl), HB.out⟩
end Go.Proofs.YtckpdfkobdgjeaaDoor
namespace Go.Proofs.YtckpdfkobdgjeaaDoor
open Go.RowKit Go.WideMaps Go.Maps
def nm (l : QL) (i : Nat) : List UInt8 := (qu l i).name.data.toList
def sameBefore (l : QL) (k : Nat) : Nat → Bool
  | 0 => false
  | i + 1 => sameBefore l k i || (nm l i == nm l k)
def nodupTo (l : QL) : Nat → Bool
  | 0 => true
  | k + 1 => nodupTo l k && !sameBefore l k k
theorem sameBefore_iff {l : QL} {k : Nat} : ∀ {m : Nat}, sameBefore l k m = true ↔ ∃ i, i < m ∧ nm l i = nm l k
  | 0 => by simp [sameBefore]
  | m + 1 => by
    simp only [sameBefore, Bool.or_eq_true, sameBefore_iff (m := m), beq_iff_eq]
    constructor
    · rintro (⟨i, h1, h2⟩ | h)
      · exact ⟨i, by omega, h2⟩
      · exact ⟨m, by omega, h⟩
    · rintro ⟨i, h1, h2⟩
      by_cases e : i = m
      · subst e; exact Or.inr h2
      · exact Or.inl ⟨i, by omega, h2⟩
theorem nodupTo_false {l : QL} {k : Nat} (h : sameBefore l k k = true) : ∀ n, k < n → nodupTo l n = false
  | 0, hn => by omega
  | n + 1, hn => by
    by_cases e : k = n
    · subst e; rw [nodupTo, h]; simp
    · rw [nodupTo, nodupTo_false h n (by omega)]; rfl
theorem grown_cell {w w' : World} {row g : Nat} (h : w.grownBy w' (some row)) (hg : g < w.heap.size) (hne : g ≠ row) (i : Nat) : w'.cell? ⟨g, i, none⟩ = w.cell? ⟨g, i, none⟩ :=
  World.cell?_of_block (w := w) (h.block g hg (fun e => hne (by injection e)))
theorem keyed9 : Keyed Tryd.prog 9 := string_keyed Tryd.underlying9
theorem zero3 (w : World) : (zeroValue 3).run Tryd.prog w = .ok (.int .i64 0) w := by kernel_rfl
def SeenTo (l : QL) (j : Nat) (D : DataW Unit) : Prop :=
  IsMap D ∧ (∀ i, i < j → D.atKey (.string (nm l i)) (.lit (.int .i64 0)) = .lit (.int .i64 1)) ∧ (∀ s, (∀ i, i < j → nm l i ≠ s) → D.atKey (.string s) (.lit (.int .i64 0)) = .lit (.int .i64 0))
theorem SeenTo.zero (l : QL) : SeenTo l 0 (.map []) := ⟨isMap_empty, fun i hi => by omega, fun s _ => rfl⟩
theorem SeenTo.next {l : QL} {j : Nat} {D : DataW Unit} (h : SeenTo l j D) : SeenTo l (j + 1) (D.put (.string (nm l j)) (.lit (.int .i64 1))) := by
  refine ⟨h.1.put _ _, fun i hi => ?_, fun s hs => ?_⟩
  · by_cases e : nm l i = nm l j
    · rw [e, atKey_put_same h.1 (show WideAt.IsKeyLit (.string (nm l j)) from trivial)]
    · rw [atKey_put_other (by intro q; injection q with q; exact e q)]
      exact h.2.1 i (by
        by_cases e2 : i = j
        · subst e2; exact absurd rfl e
        · omega)
  · rw [atKey_put_other (by intro q; injection q with q; exact hs j (by omega) q.symm)]
    exact h.2.2 s (fun i hi => hs i (by omega))
set_option maxRecDepth 100000 in
set_option maxHeartbeats 1000000 in
theorem sameName_any (w : World) (a : Option Addr) (n cap : Nat) (l : QL) (h : QsIn w a n cap l) (hp : 0 < n) (h5 : n ≤ 5) :
    Calls Tryd.prog 29 #[.slice a n cap] w fun e w' => e = .returned (.bool (!nodupTo l n)) ∧ Below w.heap.size w w' := by
  have hle := h.le
  have hbd := h.capb
  obtain ⟨b, off, rfl, hc⟩ := h.cells hp
  have HC := hid hc
  clear hc
  have hmm := @run_makeMap Tryd.prog
  go_enter Tryd.func29, Tryd.ntmps29
  go_wp2
  go_loopw [5, 9] (fun _ st wr => ∃ (j : Nat) (D : DataW Unit), st = .int .i64 j ∧ j ≤ n ∧ nodupTo l j = true ∧ wr.ownsMap Tryd.prog 9 (plainElem Tryd.prog 3) w.heap.size j D ∧ SeenTo l j D ∧ Below w.heap.size w wr) (fun _ st _ => n - (intOf st).toNat)
  case atStart => exact ⟨0, .map [], rfl, by omega, rfl, World.ownsMap_made _ _ _ _, SeenTo.zero l, (Below.refl _ _).alloc (Nat.le_refl _) _⟩
  case round =>
    obtain ⟨j, D, rfl, hj, hall, hown, hseen, hbel⟩ := hrel
    have HA := hid hall
    have HB := hid hbel
    have HO := hid hown
    have HS := hid hseen
    have hsz : w.heap.size ≤ wr.heap.size := hbel.size
    have hlt0 : w.heap.size < wr.heap.size := hown.lt
    clear hall hbel hown hseen
    by_cases hlt : j < n
    · have hlt' : (j : Int) < n := by omega
      have c0 := cell_later HB.out (HC.out j hlt).1
      have c1 := cell_later HB.out (HC.out j hlt).2.1
      have c2 := cell_later HB.out (HC.out j hlt).2.2
      have hkey : Hid (keyOf Tryd.prog 9 (.string (qu l j).name) = some (.string (nm l j))) := keyOf_string_mk Tryd.underlying9 (h.names j hlt)
      obtain ⟨q, hq⟩ : ∃ q, qu l j = q := ⟨_, rfl⟩
      rw [hq] at c0 c1 c2 hkey
      have HQ := hid hq
      clear hq
      have HO2 := hid (HO.out.alloc (.cells #[.string q.name, .int .i64 q.parent, .slice q.ca q.cn q.cc] 41))
      obtain ⟨c, hrun, hat, _⟩ := HO2.out.lookup_int keyed9 Tryd.underlying71 Tryd.underlying3 (zero3 _) hkey.out
      have HAT := hid hat
      clear hat
      cases g : sameBefore l j j with
      | true =>
        have hc1 : c = 1 := by
          obtain ⟨i, hi, e⟩ := sameBefore_iff.1 g
          have := HS.out.2.1 i hi
          rw [e, HAT.out] at this
          injection this with q; injection q
        subst hc1
        have tok : True := trivial
        go_wp2_with (at_mapUpdate; have _t := tok; refine wpList_mapUpdate_own _ rfl _ _ _ 71 rfl 9 3 keyed9 Tryd.underlying71 _ w.heap.size j _ rfl HO2.out (by unfold maxLen; omega) _ _ _ rfl rfl hkey.out _ [] (plainElem_int Tryd.underlying3 (WalkArith.wf_i64 (by omega))) ?_; clear tok)
        intro w1 hown1 hgrow1
        have d0 := grown_cell hgrow1 (by simp) (show wr.heap.size ≠ w.heap.size by omega) 0
        simp only [World.cell?_alloc_at _ _ _ _ rfl] at d0
        have HB1 := hid ((HB.out.alloc hsz _).grown hgrow1 (by simp; omega) (fun k hk => by cases hk; exact Nat.le_refl _))
        obtain ⟨c2, hrun2, hat2, _⟩ := hown1.lookup_int keyed9 Tryd.underlying71 Tryd.underlying3 (zero3 _) hkey.out
        have hc2 : c2 = 2 := by
          rw [atKey_put_same HS.out.1 (show WideAt.IsKeyLit (.string (nm l j)) from trivial)] at hat2
          injection hat2 with q; injection q with _ q; exact q.symm
        subst hc2
        clear hown1 hgrow1 hat2 hrun
        go_wp2
        go_ret
        exact ⟨ret_bool (by rw [nodupTo_false g n hlt]; rfl), HB1.out⟩
      | false =>
        have hnot : ∀ i, i < j → nm l i ≠ nm l j := fun i hi e => by
          have := sameBefore_iff.2 ⟨i, hi, e⟩
          rw [g] at this; cases this
        have hc1 : c = 0 := by
          have := HS.out.2.2 (nm l j) hnot
          rw [HAT.out] at this
          injection this with q; injection q
        subst hc1
        clear hnot
        have tok : True := trivial
        go_wp2_with (at_mapUpdate; have _t := tok; refine wpList_mapUpdate_own _ rfl _ _ _ 71 rfl 9 3 keyed9 Tryd.underlying71 _ w.heap.size j _ rfl HO2.out (by unfold maxLen; omega) _ _ _ rfl rfl hkey.out _ [] (plainElem_int Tryd.underlying3 (WalkArith.wf_i64 (by omega))) ?_; clear tok)
        intro w1 hown1 hgrow1
        have d0 := grown_cell hgrow1 (by simp) (show wr.heap.size ≠ w.heap.size by omega) 0
        simp only [World.cell?_alloc_at _ _ _ _ rfl] at d0
        have HB1 := hid ((HB.out.alloc hsz _).grown hgrow1 (by simp; omega) (fun k hk => by cases hk; exact Nat.le_refl _))
        have HO1 := hid hown1
        obtain ⟨c2, hrun2, hat2, _⟩ := hown1.lookup_int keyed9 Tryd.underlying71 Tryd.underlying3 (zero3 _) hkey.out
        have hc2 : c2 = 1 := by
          rw [atKey_put_same HS.out.1 (show WideAt.IsKeyLit (.string (nm l j)) from trivial)] at hat2
          injection hat2 with q; injection q with _ q; exact q.symm
        subst hc2
        clear hown1 hgrow1 hat2 hrun
        go_wp2
        go_roundw
        case rel => exact ⟨j + 1, _, by go_num, by omega, by rw [nodupTo, HA.out, g]; rfl, HO1.out, HS.out.next, HB1.out⟩
        case measure => simp [intOf]; omega
    · obtain rfl : j = n := by omega
      go_wp2
      go_ret
      exact ⟨ret_bool (by rw [HA.out]; rfl), HB.out⟩
end Go.Proofs.YtckpdfkobdgjeaaDoor
namespace Go.Proofs.YtckpdfkobdgjeaaDoor
open Go.RowKit
def namesOk (l : QL) : Bool := allQ (fun q => isName q.name) l l.length
def capsOk (l : QL) : Bool := allQ (fun q => capFine q.runs) l l.length
def chkT (l : QL) : Int :=
  if wth l.length 1 5 = true then (if namesOk l = true then (if nodupTo l l.length = true then (if parTo l l.length = true then (if capsOk l = true then 0 else 1) else 3) else 5) else 4) else 2
set_option maxHeartbeats 400000 in
theorem CheckT_any (w : World) (a : Option Addr) (n cap : Nat) (l : QL) (h : QsIn w a n cap l) :
    Calls Tryd.prog 12 #[.slice a n cap] w fun e w' => e = .returned (.int .i64 (chkT l)) ∧ Below w.heap.size w w' := by
  have hn := h.len
  have hcb := h.capb
  have hle := h.le
  cases hw : wth l.length 1 5 with
  | false =>
    have hr : chkT l = 2 := by simp [chkT, hw]
    rw [hr]
    rw [← hn] at hw
    simp [wth] at hw
    have HN := hid hn
    clear hn
    by_cases g1 : (n : Int) < 1
    · go_enter Tryd.func12, Tryd.ntmps12
      go_wp2
      go_ret
      exact ⟨rfl, Below.refl _ _⟩
    · have g2 : (5 : Int) < n := by omega
      go_enter Tryd.func12, Tryd.ntmps12
      go_wp2
      go_ret
      exact ⟨rfl, Below.refl _ _⟩
  | true =>
    have hw' := hw
    rw [← hn] at hw'
    simp [wth] at hw'
    have hp : 0 < n := by omega
    have h5 : n ≤ 5 := by omega
    have g1 : ¬ (n : Int) < 1 := by omega
    have g2 : ¬ (5 : Int) < n := by omega
    have e1 : allQ (fun q => isName q.name) l n = namesOk l := by rw [namesOk, hn]
    have e2 : nodupTo l n = nodupTo l l.length := by rw [hn]
    have e3 : parTo l n = parTo l l.length := by rw [hn]
    have e4 : allQ (fun q => capFine q.runs) l n = capsOk l := by rw [capsOk, hn]
    have K1 := hid fun w1 (hb : Below w.heap.size w w1) => ContainsQs_any 27 _ asks61 w1 a n cap l (h.later hb) hp
    have K2 := hid fun w1 (hb : Below w.heap.size w w1) => sameName_any w1 a n cap l (h.later hb) hp h5
    have K3 := hid fun w1 (hb : Below w.heap.size w w1) => badParent_any w1 a n cap l (h.later hb) hp
    have K4 := hid fun w1 (hb : Below w.heap.size w w1) => ContainsQs_any 31 _ asks64 w1 a n cap l (h.later hb) hp
    rw [e1] at K1
    rw [e2] at K2
    rw [e3] at K3
    rw [e4] at K4
    clear hw' e1 e2 e3 e4
    have HN := hid hn
    clear hn
    cases c1 : namesOk l with
    | false =>
      have hr : chkT l = 4 := by simp [chkT, hw, c1]
      rw [hr]
      go_enter Tryd.func12, Tryd.ntmps12
      go_wp2_with fail
      refine (K1.out w (Below.refl _ _)).mono ?_
      rintro e w1 ⟨rfl, B1⟩
      rw [c1]
      go_wp2
      go_ret
      exact ⟨rfl, B1⟩
    | true =>
    cases c2 : nodupTo l l.length with
    | false =>
      have hr : chkT l = 5 := by simp [chkT, hw, c1, c2]
      rw [hr]
      go_enter Tryd.func12, Tryd.ntmps12
      go_wp2_with fail
      refine (K1.out w (Below.refl _ _)).mono ?_
      rintro e w1 ⟨rfl, B1⟩
      rw [c1]
      go_wp2_with fail
      refine (K2.out w1 B1).mono ?_
      rintro e w2 ⟨rfl, B2⟩
      have B2 := below_from B1 B2
      rw [c2]
      go_wp2
      go_ret
      exact ⟨rfl, B2⟩
    | true =>
    cases c3 : parTo l l.length with
    | false =>
      have hr : chkT l = 3 := by simp [chkT, hw, c1, c2, c3]
      rw [hr]
      go_enter Tryd.func12, Tryd.ntmps12
      go_wp2_with fail
      refine (K1.out w (Below.refl _ _)).mono ?_
      rintro e w1 ⟨rfl, B1⟩
      rw [c1]
      go_wp2_with fail
      refine (K2.out w1 B1).mono ?_
      rintro e w2 ⟨rfl, B2⟩
      have B2 := below_from B1 B2
      rw [c2]
      go_wp2_with fail
      refine (K3.out w2 B2).mono ?_
      rintro e w3 ⟨rfl, B3⟩
      have B3 := below_from B2 B3
      rw [c3]
      go_wp2
      go_ret
      exact ⟨rfl, B3⟩
    | true =>
      have hr : chkT l = if capsOk l = true then 0 else 1 := by simp [chkT, hw, c1, c2, c3]
      rw [hr]
      cases c4 : capsOk l
      all_goals
        go_enter Tryd.func12, Tryd.ntmps12
        go_wp2_with fail
        refine (K1.out w (Below.refl _ _)).mono ?_
        rintro e w1 ⟨rfl, B1⟩
        rw [c1]
        go_wp2_with fail
        refine (K2.out w1 B1).mono ?_
        rintro e w2 ⟨rfl, B2⟩
        have B2 := below_from B1 B2
        rw [c2]
        go_wp2_with fail
        refine (K3.out w2 B2).mono ?_
        rintro e w3 ⟨rfl, B3⟩
        have B3 := below_from B2 B3
        rw [c3]
        go_wp2_with fail
        refine (K4.out w3 B3).mono ?_
        rintro e w4 ⟨rfl, B4⟩
        have B4 := below_from B3 B4
        rw [c4]
        go_wp2
        go_ret
        exact ⟨ret_int (by rfl), B4⟩
theorem chkT_4 {l : QL} (hw : wth l.length 1 5 = true) (h : namesOk l = false) : chkT l = 4 := by simp [chkT, hw, h]
theorem chkT_5 {l : QL} (hw : wth l.length 1 5 = true) (h1 : namesOk l = true) (h : nodupTo l l.length = false) : chkT l = 5 := by simp [chkT, hw, h, h1]
theorem chkT_3 {l : QL} (hw : wth l.length 1 5 = true) (h1 : namesOk l = true) (h2 : nodupTo l l.length = true) (h : parTo l l.length = false) : chkT l = 3 := by simp [chkT, hw, h, h1, h2]
theorem chkT_1 {l : QL} (hw : wth l.length 1 5 = true) (h1 : namesOk l = true) (h2 : nodupTo l l.length = true) (h3 : parTo l l.length = true) (h : capsOk l = false) : chkT l = 1 := by simp [chkT, hw, h, h1, h2, h3]
theorem chkT_0 {l : QL} (hw : wth l.length 1 5 = true) (h1 : namesOk l = true) (h2 : nodupTo l l.length = true) (h3 : parTo l l.length = true) (h : capsOk l = true) : chkT l = 0 := by simp [chkT, hw, h, h1, h2, h3]
theorem sameBefore_at {l : QL} {k i : Nat} (hi : i < k) (h : (nm l i == nm l k) = true) : sameBefore l k k = true := sameBefore_iff.2 ⟨i, hi, eq_of_beq h⟩
end Go.Proofs.YtckpdfkobdgjeaaDoor
namespace Go.Proofs.YtckpdfkobdgjeaaDoor
open Go.RowKit
structure Right (l : QL) : Prop where
  pos : 0 < l.length
  five : l.length ≤ 5
  par : ∀ k, k < l.length → -1 ≤ (qu l k).parent ∧ (qu l k).parent < k
theorem right_of {l : QL} (h : chkT l = 0) : Right l := by
  unfold chkT at h
  by_cases hw : wth l.length 1 5 = true
  · rw [if_pos hw] at h
    have hw' := of_decide_eq_true hw
    by_cases h1 : namesOk l = true
    · rw [if_pos h1] at h
      by_cases h2 : nodupTo l l.length = true
      · rw [if_pos h2] at h
        by_cases h3 : parTo l l.length = true
        · exact ⟨by omega, by omega, parTo_iff.1 h3⟩
        · rw [if_neg h3] at h; omega
      · rw [if_neg h2] at h; omega
    · rw [if_neg h1] at h; omega
  · rw [if_neg hw] at h; omega
structure IntsIn (w : World) (a : Option Addr) (n cap : Nat) (l : List Int) : Prop where
  len : n = l.length
  le : n ≤ cap
  capb : cap ≤ 9223372036854775807
  cells : 0 < n → ∃ b off, a = some ⟨b, off, none⟩ ∧ ∀ i, i < n → w.cell? ⟨b, off + i, none⟩ = some (.int .i64 (l.getD i 0))
theorem IntsIn.later {w w' : World} {a : Option Addr} {n cap : Nat} {l : List Int} (h : IntsIn w a n cap l) (hb : Below w.heap.size w w') : IntsIn w' a n cap l := by
  refine ⟨h.len, h.le, h.capb, fun hp => ?_⟩
  obtain ⟨b, off, ha, hc⟩ := h.cells hp
  exact ⟨b, off, ha, fun i hi => cell_later hb (hc i hi)⟩
def OwnInts (w : World) (B : Nat) (v : Value) (l : List Int) : Prop := w.ownsRow B 3 1 v l.length (l.map (Value.int .i64))
end Go.Proofs.YtckpdfkobdgjeaaDoor
namespace Go.Proofs.YtckpdfkobdgjeaaDoor
open Go.RowKit
structure BoolsIn (w : World) (a : Option Addr) (n cap : Nat) (l : List Bool) : Prop where
  len : n = l.length
  le : n ≤ cap
  capb : cap ≤ 9223372036854775807
  cells : 0 < n → ∃ b off, a = some ⟨b, off, none⟩ ∧ ∀ i, i < n → w.cell? ⟨b, off + i, none⟩ = some (.bool (l.getD i false))
theorem BoolsIn.later {w w' : World} {a : Option Addr} {n cap : Nat} {l : List Bool} (h : BoolsIn w a n cap l) (hb : Below w.heap.size w w') : BoolsIn w' a n cap l := by
  refine ⟨h.len, h.le, h.capb, fun hp => ?_⟩
  obtain ⟨b, off, ha, hc⟩ := h.cells hp
  exact ⟨b, off, ha, fun i hi => cell_later hb (hc i hi)⟩
end Go.Proofs.YtckpdfkobdgjeaaDoor
namespace Go.Proofs.YtckpdfkobdgjeaaDoor
open Go.RowKit Go.Shelf
attribute [local go_sem] Oper.semAt_some
def KeepsL (n₀ Bl : Nat) (A B : World) : Prop := Below n₀ A B ∧ ∀ v, Boxed A Bl 22 v → Boxed B Bl 22 v
theorem KeepsL.trans {n₀ Bl : Nat} {A B C : World} (h : KeepsL n₀ Bl A B) (k : KeepsL n₀ Bl B C) : KeepsL n₀ Bl A C := ⟨h.1.trans k.1, fun v hv => k.2 v (h.2 v hv)⟩
theorem OwnInts.base {w : World} {B B' : Nat} {v : Value} {l : List Int} (h : OwnInts w B v l) (hb : B' ≤ B) : OwnInts w B' v l := by
  refine ⟨h.1, ?_⟩
  rcases h.2 with h2 | ⟨g, cap, cur, hv, hg, hr⟩
  · exact Or.inl h2
  · exact Or.inr ⟨g, cap, cur, hv, by omega, hr⟩
end Go.Proofs.YtckpdfkobdgjeaaDoor
namespace Go.Proofs.YtckpdfkobdgjeaaDoor
open Go.RowKit Go.Shelf
attribute [local go_sem] Oper.semAt_some
structure After (W0 W' : World) (G n : Nat) (g : Nat → Value) : Prop where
  os : W'.os = W0.os
  tape : W'.tape = W0.tape
  output : W'.output = W0.output
  size : W0.heap.size ≤ W'.heap.size
  block : ∀ k, k < W0.heap.size → k ≠ G → W'.heap[k]? = W0.heap[k]?
  row : W'.rowIs G 4 n g
theorem After.own {β : Type} {W0 : World} {G n B : Nat} {g : Nat → Value} (hB : W0.heap.size ≤ B) (hG : G < W0.heap.size) : OwnFrom B (fun (_ : β) W' => After W0 W' G n g) := fun _ X Y row hs hg hr =>
  ⟨hg.os.trans hs.os, hg.tape.trans hs.tape, hg.output.trans hs.output, Nat.le_trans hs.size hg.size,
    fun k hk hne => (hg.block k (Nat.lt_of_lt_of_le hk hs.size) (fun e => by have := (hr k e.symm).1; omega)).trans (hs.block k hk hne),
    hs.row.of_block (hg.block G hs.row.lt (fun e => by have := (hr G e.symm).1; omega))⟩
theorem After.box {W0 W' : World} {G n : Nat} {g : Nat → Value} (h : After W0 W' G n g) {B t : Nat} {v : Value} (hb : Boxed W0 B t v) (hne : B ≠ G) : Boxed W' B t v := (h.block B hb.lt hne).trans hb
theorem After.below {W0 W' : World} {G n B : Nat} {g : Nat → Value} (h : After W0 W' G n g) (hB : B ≤ G) (hs : G < W0.heap.size) : Below B W0 W' :=
  ⟨h.os, h.tape, h.output, h.size, fun k hk => h.block k (by omega) (by omega)⟩
end Go.Proofs.YtckpdfkobdgjeaaDoor
namespace Go.Proofs.YtckpdfkobdgjeaaDoor
open Go.RowKit
def sAll : ByteArray := ⟨#[97, 108, 108]⟩
def sNorth : ByteArray := ⟨#[110, 111, 114, 116, 104]⟩
def sSouth : ByteArray := ⟨#[115, 111, 117, 116, 104]⟩
def sBarn : ByteArray := ⟨#[98, 97, 114, 110]⟩
def fL (c : Nat) (p m : Int) : QL := [⟨sAll, -1, some ⟨c, 0, none⟩, 1, 1, [(0, 10)]⟩, ⟨sNorth, p, some ⟨c + 1, 0, none⟩, 2, 2, [(0, 8), (20, 4)]⟩, ⟨sSouth, 0, some ⟨c + 2, 0, none⟩, 1, 1, [(0, m)]⟩, ⟨sBarn, 1, some ⟨c + 3, 0, none⟩, 1, 1, [(0, 8)]⟩]
def fCells (c : Nat) (p : Int) : Array Value := #[.string sAll, .int .i64 (-1), .slice (some ⟨c, 0, none⟩) 1 1, .string sNorth, .int .i64 p, .slice (some ⟨c + 1, 0, none⟩) 2 2, .string sSouth, .int .i64 0, .slice (some ⟨c + 2, 0, none⟩) 1 1, .string sBarn, .int .i64 1, .slice (some ⟨c + 3, 0, none⟩) 1 1]
structure FieldIn (w : World) (c : Nat) (p m : Int) : Prop where
  b0 : w.heap[c]? = some (.cells #[.int .i64 0, .int .i64 10] 47 (0, 0))
  b1 : w.heap[c + 1]? = some (.cells #[.int .i64 0, .int .i64 8, .int .i64 20, .int .i64 4] 47 (0, 0))
  b2 : w.heap[c + 2]? = some (.cells #[.int .i64 0, .int .i64 m] 47 (0, 0))
  b3 : w.heap[c + 3]? = some (.cells #[.int .i64 0, .int .i64 8] 47 (0, 0))
  b4 : w.heap[c + 4]? = some (.cells (fCells c p) 41 (0, 0))
theorem runs_block {w : World} {g : Nat} {cs : Array Value} {t : TypeId} (h : w.heap[g]? = some (.cells cs t (0, 0))) (l : RunL) (n : Nat) (hc : cs.toList = cellsOf l) (hn : n = l.length) (hb : l.length ≤ 48) : RunsIn w (some ⟨g, 0, none⟩) n n l := by
  refine ⟨hn, Nat.le_refl _, by omega, by omega, fun _ => ⟨g, 0, rfl, fun i hi => ?_⟩⟩
  rw [cell_of_row w g _ _ _ _ h, cell_of_row w g _ _ _ _ h]
  have h1 := cellsOf_even l i (by omega)
  have h2 := cellsOf_odd l i (by omega)
  rw [← hc] at h1 h2
  simp only [Array.getElem?_toList] at h1 h2
  rw [Nat.zero_add]
  exact ⟨h1, h2⟩
theorem FieldIn.qs {w : World} {c : Nat} {p m : Int} (h : FieldIn w c p m) : QsIn w (some ⟨c + 4, 0, none⟩) 4 4 (fL c p m) := by
  refine ⟨rfl, Nat.le_refl _, by omega, fun _ => ⟨c + 4, 0, rfl, fun i hi => ?_⟩, fun i hi => ?_, fun i hi => ?_⟩
  · rw [cell_of_row w _ _ _ _ _ h.b4, cell_of_row w _ _ _ _ _ h.b4, cell_of_row w _ _ _ _ _ h.b4]
    match i, hi with
    | 0, _ => exact ⟨rfl, rfl, rfl⟩
    | 1, _ => exact ⟨rfl, rfl, rfl⟩
    | 2, _ => exact ⟨rfl, rfl, rfl⟩
    | 3, _ => exact ⟨rfl, rfl, rfl⟩
  · match i, hi with
    | 0, _ => exact runs_block h.b0 [(0, 10)] 1 rfl rfl (by decide)
    | 1, _ => exact runs_block h.b1 [(0, 8), (20, 4)] 2 rfl rfl (by decide)
    | 2, _ => exact runs_block h.b2 [(0, m)] 1 rfl rfl (by simp)
    | 3, _ => exact runs_block h.b3 [(0, 8)] 1 rfl rfl (by decide)
  · match i, hi with
    | 0, _ => show sAll.size ≤ 9223372036854775807; decide
    | 1, _ => show sNorth.size ≤ 9223372036854775807; decide
    | 2, _ => show sSouth.size ≤ 9223372036854775807; decide
    | 3, _ => show sBarn.size ≤ 9223372036854775807; decide
theorem FieldIn.later {w w' : World} {c : Nat} {p m : Int} (h : FieldIn w c p m) (hb : Below w.heap.size w w') : FieldIn w' c p m := by
  have hlt : c + 4 < w.heap.size := (Array.getElem?_eq_some_iff.1 h.b4).1
  exact ⟨(hb.block _ (by omega)).trans h.b0, (hb.block _ (by omega)).trans h.b1, (hb.block _ (by omega)).trans h.b2, (hb.block _ (by omega)).trans h.b3, (hb.block _ (by omega)).trans h.b4⟩
theorem FieldIn.parent {w : World} {c : Nat} {p m : Int} (h : FieldIn w c p m) (p' : Int) : FieldIn (w.setCell ⟨c + 4, 4, none⟩ (.int .i64 p')) c p' m := by
  refine ⟨(heap_setCell_other _ _ _ _ (by simp)).trans h.b0, (heap_setCell_other _ _ _ _ (by simp)).trans h.b1, (heap_setCell_other _ _ _ _ (by simp)).trans h.b2, (heap_setCell_other _ _ _ _ (by simp)).trans h.b3, ?_⟩
  rw [heap_setCell_same _ _ _ _ _ _ h.b4]
  rfl
theorem FieldIn.cap {w : World} {c : Nat} {p m : Int} (h : FieldIn w c p m) (m' : Int) : FieldIn (w.setCell ⟨c + 2, 1, none⟩ (.int .i64 m')) c p m' := by
  refine ⟨(heap_setCell_other _ _ _ _ (by simp)).trans h.b0, (heap_setCell_other _ _ _ _ (by simp)).trans h.b1, ?_, (heap_setCell_other _ _ _ _ (by simp)).trans h.b3, (heap_setCell_other _ _ _ _ (by simp)).trans h.b4⟩
  rw [heap_setCell_same _ _ _ _ _ _ h.b2]
  rfl
theorem five_new (w : World) (a b c d e : Obj) : (((((w.alloc a).alloc b).alloc c).alloc d).alloc e).heap[w.heap.size]? = some a ∧ (((((w.alloc a).alloc b).alloc c).alloc d).alloc e).heap[w.heap.size + 1]? = some b ∧
    (((((w.alloc a).alloc b).alloc c).alloc d).alloc e).heap[w.heap.size + 2]? = some c ∧ (((((w.alloc a).alloc b).alloc c).alloc d).alloc e).heap[w.heap.size + 3]? = some d ∧ (((((w.alloc a).alloc b).alloc c).alloc d).alloc e).heap[w.heap.size + 4]? = some e := by
  have s1 : (w.alloc a).heap.size = w.heap.size + 1 := by simp
  have s2 : ((w.alloc a).alloc b).heap.size = w.heap.size + 2 := by simp
  have s3 : (((w.alloc a).alloc b).alloc c).heap.size = w.heap.size + 3 := by simp
  have s4 : ((((w.alloc a).alloc b).alloc c).alloc d).heap.size = w.heap.size + 4 := by simp
  have n1 := heap_alloc_new w a
  have n2 := heap_alloc_new (w.alloc a) b
  have n3 := heap_alloc_new ((w.alloc a).alloc b) c
  have n4 := heap_alloc_new (((w.alloc a).alloc b).alloc c) d
  have n5 := heap_alloc_new ((((w.alloc a).alloc b).alloc c).alloc d) e
  rw [s1] at n2
  rw [s2] at n3
  rw [s3] at n4
  rw [s4] at n5
  refine ⟨?_, ?_, ?_, ?_, n5⟩
  · rw [Below.heap_alloc _ _ _ (by omega), Below.heap_alloc _ _ _ (by omega), Below.heap_alloc _ _ _ (by omega), Below.heap_alloc _ _ _ (by omega)]; exact n1
  · rw [Below.heap_alloc _ _ _ (by omega), Below.heap_alloc _ _ _ (by omega), Below.heap_alloc _ _ _ (by omega)]; exact n2
  · rw [Below.heap_alloc _ _ _ (by omega), Below.heap_alloc _ _ _ (by omega)]; exact n3
  · rw [Below.heap_alloc _ _ _ (by omega)]; exact n4
theorem five_below (w : World) (a b c d e : Obj) : Below w.heap.size w (((((w.alloc a).alloc b).alloc c).alloc d).alloc e) :=
  (((((Below.refl _ w).alloc (Nat.le_refl _) _).alloc (by simp) _).alloc (by simp; omega) _).alloc (by simp; omega) _).alloc (by simp; omega) _
theorem field_any (w : World) : Calls Tryd.prog 22 #[] w fun e w' => e = .returned (.slice (some ⟨w.heap.size + 4, 0, none⟩) 4 4) ∧ FieldIn w' w.heap.size 0 6 ∧ Below w.heap.size w w' := by
  go_enter Tryd.func22, Tryd.ntmps22
  go_wp2
  go_ret
  obtain ⟨h0, h1, h2, h3, h4⟩ := five_new w (.cells #[.int .i64 0, .int .i64 10] 47) (.cells #[.int .i64 0, .int .i64 8, .int .i64 20, .int .i64 4] 47) (.cells #[.int .i64 0, .int .i64 6] 47) (.cells #[.int .i64 0, .int .i64 8] 47) (.cells (fCells w.heap.size 0) 41)
  exact ⟨rfl, ⟨h0, h1, h2, h3, h4⟩, five_below w _ _ _ _ _⟩
theorem fl_ok (c : Nat) : chkT (fL c 0 6) = 0 := by rfl
theorem qsIn_nil (w : World) : QsIn w none 0 0 [] := ⟨rfl, Nat.le_refl _, by simp, fun h => by simp at h, fun i hi => by omega, fun i hi => by omega⟩
end Go.Proofs.YtckpdfkobdgjeaaDoor
