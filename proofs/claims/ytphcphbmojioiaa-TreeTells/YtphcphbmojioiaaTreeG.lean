/- Contracts of the reference's beneath, UnderOf, SameInts and SameBools. -/
import Derived.Test.YtphcphbmojioiaaTreeF
import Derived.Deep.OwnRows
namespace Go.Proofs.Ytphcphbmojioiaa
open Go.RowKit

/-- does q stand among the first k? -/
def hasTo (zs : List Int) (q : Int) : Nat → Bool
  | 0 => false
  | k + 1 => hasTo zs q k || (zs.getD k 0 == q)
theorem hasTo_true {zs : List Int} {q : Int} {k : Nat} (h : (zs.getD k 0 == q) = true) : ∀ n, k < n → hasTo zs q n = true
  | 0, hn => by omega
  | n + 1, hn => by
    by_cases e : k = n
    · subst e; rw [hasTo, h]; simp
    · rw [hasTo, hasTo_true h n (by omega)]; rfl
/-- B2: does q stand in k's line? -/
def standsIn (l : QL) (k q : Int) : Bool := hasTo (lineOf l k) q (lineOf l k).length

set_option maxHeartbeats 400000 in
theorem beneath_any (w : World) (a : Option Addr) (n cap : Nat) (l : QL) (k q : Int) (h : QsIn w a n cap l) (hR : Right l) (hk : k < n) :
    Calls Try.prog 58 #[.slice a n cap, .int .i64 k, .int .i64 q] w fun e w' => e = .returned (.bool (standsIn l k q)) ∧ Below w.heap.size w w' := by
  have HR := hid hR
  clear hR
  go_enter Try.func58, Try.ntmps58
  go_wp2_with fail
  refine (LineOf_any w a n cap l k h HR.out hk).mono ?_
  rintro e w1 ⟨v, rfl, ho, hb⟩
  obtain ⟨a1, cap1, rfl, hi⟩ := ho.parts
  have HI := hid hi
  have HB := hid hb
  have hl5 := line_len l k
  have hcap := hi.capb
  have hle := hi.le
  have hst : Hid (standsIn l k q = hasTo (lineOf l k) q (lineOf l k).length) := rfl
  obtain ⟨zs, hz⟩ : ∃ zs, lineOf l k = zs := ⟨_, rfl⟩
  rw [hz] at HI hl5 hle hst ⊢
  obtain ⟨m, hm⟩ : ∃ m, zs.length = m := ⟨_, rfl⟩
  rw [hm] at HI hl5 hle hst ⊢
  clear hi hb ho hz hm
  by_cases hp : 0 < m
  · obtain ⟨b, off, rfl, hc⟩ := HI.out.cells hp
    have HC := hid hc
    clear hc
    go_wp2_with fail
    go_loop [8] (fun st => ∃ j : Nat, st = .int .i64 j ∧ j ≤ m ∧ hasTo zs q j = false) (fun st => m - (intOf st).toNat)
    case atStart => exact ⟨0, rfl, by omega, rfl⟩
    case round =>
      obtain ⟨j, rfl, hj, hno⟩ := hrel
      have HA := hid hno
      clear hno
      by_cases hlt : j < m
      · have hlt' : (j : Int) < m := by omega
        have c := HC.out j hlt
        obtain ⟨z, hz⟩ : ∃ z, zs.getD j 0 = z := ⟨_, rfl⟩
        rw [hz] at c
        have HZ := hid hz
        clear hz
        cases g : (z == q) with
        | true =>
          go_wp2
          go_ret
          exact ⟨ret_bool (by rw [hst.out, hasTo_true (k := j) (by rw [HZ.out]; exact g) m hlt]), HB.out⟩
        | false =>
          go_wp2
          go_round
          case rel => exact ⟨j + 1, by go_num, by omega, by rw [hasTo, HA.out, HZ.out, g]; rfl⟩
          case measure => simp [intOf]; omega
      · obtain rfl : m = j := by omega
        go_wp2
        go_ret
        exact ⟨ret_bool (by rw [hst.out, HA.out]), HB.out⟩
  · obtain rfl : m = 0 := by omega
    go_wp2_with fail
    go_loop [8] (fun st => st = .int .i64 0) (fun _ => 0)
    case atStart => rfl
    case round =>
      subst hrel
      go_wp2
      go_ret
      exact ⟨ret_bool (by rw [hst.out]; rfl), HB.out⟩

/-- yes and no in memory -/
structure BoolsIn (w : World) (a : Option Addr) (n cap : Nat) (l : List Bool) : Prop where
  len : n = l.length
  le : n ≤ cap
  capb : cap ≤ 9223372036854775807
  cells : 0 < n → ∃ b off, a = some ⟨b, off, none⟩ ∧ ∀ i, i < n → w.cell? ⟨b, off + i, none⟩ = some (.bool (l.getD i false))
theorem BoolsIn.later {w w' : World} {a : Option Addr} {n cap : Nat} {l : List Bool} (h : BoolsIn w a n cap l) (hb : Below w.heap.size w w') : BoolsIn w' a n cap l := by
  refine ⟨h.len, h.le, h.capb, fun hp => ?_⟩
  obtain ⟨b, off, ha, hc⟩ := h.cells hp
  exact ⟨b, off, ha, fun i hi => cell_later hb (hc i hi)⟩
theorem boolsIn_nil (w : World) : BoolsIn w none 0 0 [] := ⟨rfl, Nat.le_refl _, by simp, fun h => by simp at h⟩

/-- B2: of each queue, whether q stands in its line -/
def underOf (l : QL) (n : Nat) (q : Int) : List Bool := (List.range n).map fun (k : Nat) => standsIn l (k : Int) q
theorem underOf_len (l : QL) (n : Nat) (q : Int) : (underOf l n q).length = n := by simp [underOf]
theorem underOf_get (l : QL) (n : Nat) (q : Int) (k : Nat) (h : k < n) : (underOf l n q).getD k false = standsIn l (k : Int) q := by simp [underOf, List.getD, h]
theorem Try.info4 : (Try.prog.info? 4).map (fun i => (i.zero, i.size, i.bytes)) = some (some (.bool false), 1, 1) := by kernel_rfl
theorem bools_row {w : World} {g n : Nat} {f : Nat → Value} {l : List Bool} (hn : n = l.length) (h : w.rowIs g 4 n f) (hf : ∀ i, i < n → f i = .bool (l.getD i false)) (hb : n ≤ 5) : BoolsIn w (some ⟨g, 0, none⟩) n n l :=
  ⟨hn, Nat.le_refl _, by omega, fun _ => ⟨g, 0, rfl, fun i hi => by rw [Nat.zero_add, h.cell hi, hf i hi]⟩⟩

set_option maxHeartbeats 400000 in
theorem UnderOf_any (w : World) (a : Option Addr) (n cap : Nat) (l : QL) (q : Int) (h : QsIn w a n cap l) (hR : Right l) :
    Calls Try.prog 30 #[.slice a n cap, .int .i64 q] w fun e w' => ∃ a' cap', e = .returned (.slice a' n cap') ∧ BoolsIn w' a' n cap' (underOf l n q) ∧ Below w.heap.size w w' := by
  have HN := hid h.len
  have hcb := h.capb
  have hle := h.le
  have HR := hid hR
  have hp : 0 < n := by have := hR.pos; have := HN.out; omega
  have h5 : n ≤ 5 := by have := hR.five; have := HN.out; omega
  clear hR
  have hmk := run_make_row' (P := Try.prog) 41 4 (.bool false) 1 Try.underlying41 Try.info4 rfl .i64 .i64 n (by omega) (by omega)
  go_enter Try.func30, Try.ntmps30
  go_wp2
  clear hmk
  obtain ⟨W1, hW1⟩ : ∃ W1, W1 = w.alloc (.cells (madeCells #[.bool false] n) 4) := ⟨_, rfl⟩
  rw [← hW1]
  have T1 : Hid (W1.rowIs w.heap.size 4 n (fun _ => .bool false)) := by rw [hW1]; exact World.rowIs_made w _ n 4
  have B1 : Hid (Below w.heap.size w W1) := by rw [hW1]; exact (Below.refl _ _).alloc (Nat.le_refl _) _
  clear hW1
  go_loopw [6] (fun st wr => ∃ (j : Nat) (f : Nat → Value), st = .int .i64 j ∧ j ≤ n ∧ wr.rowIs w.heap.size 4 n f ∧ (∀ i, i < j → f i = .bool (standsIn l (i : Int) q)) ∧ (∀ i, i < n → ∃ b, f i = .bool b) ∧ Below w.heap.size w wr) (fun st _ => n - (intOf st).toNat)
  case atStart => exact ⟨0, _, rfl, by omega, T1.out, fun i hi => by omega, fun i _ => ⟨false, rfl⟩, B1.out⟩
  case round =>
    obtain ⟨j, f, rfl, hj, hrow, hf, hbo, hbel⟩ := hrel
    have HW := hid hrow
    have HF := hid hf
    have HB := hid hbel
    have HO := hid hbo
    clear hrow hf hbel hbo
    by_cases hlt : j < n
    · have hlt' : (j : Int) < n := by omega
      go_wp2_with fail
      refine (beneath_any wr a n cap l j q (h.later HB.out) HR.out hlt').mono ?_
      rintro e w2 ⟨rfl, hb2⟩
      have HW2 := hid (HW.out.of_block (hb2.block _ HW.out.lt))
      have B2 := hid (below_from HB.out hb2)
      obtain ⟨bo, hbo⟩ := HO.out j hlt
      have c := HW2.out.cell hlt
      rw [hbo] at c
      have fz := HW2.out.frozen j
      clear hbo hb2
      go_wp2
      go_roundw
      case rel => exact ⟨j + 1, _, by go_num, by omega, HW2.out.set j _, fun i hi => by
        by_cases e : i = j
        · subst e; simp
        · simp only [if_neg e]; exact HF.out i (by omega), fun i hi => by
        by_cases e : i = j
        · subst e; exact ⟨_, if_pos rfl⟩
        · simp only [if_neg e]; exact HO.out i hi, B2.out.setCell (Nat.le_refl _) _⟩
      case measure => simp [intOf]; omega
    · obtain rfl : n = j := by omega
      go_wp2
      go_ret
      exact ⟨_, _, rfl, bools_row (underOf_len l n q).symm HW.out (fun i hi => by rw [HF.out i hi, underOf_get l n q i hi]) h5, HB.out⟩

theorem SameInts_same (w : World) (a1 a2 : Option Addr) (n cap1 cap2 : Nat) (l : List Int) (h1 : IntsIn w a1 n cap1 l) (h2 : IntsIn w a2 n cap2 l) :
   Calls Try.prog 36 #[.slice a1 n cap1, .slice a2 n cap2] w fun e w' => e = .returned (.bool true) ∧ ∃ d, w' = w.drewN d := by
  have hle := h1.le
  have hcb := h1.capb
  have HC1 := hid h1.cells
  have HC2 := hid h2.cells
  clear h1 h2
  have hne : ((n : Int) != n) = false := by simp
  by_cases hp : 0 < n
  · obtain ⟨b1, o1, rfl, c1⟩ := HC1.out hp
    obtain ⟨b2, o2, rfl, c2⟩ := HC2.out hp
    go_enter Try.func36, Try.ntmps36
    go_wp2
    go_loopw [5] (fun s wr => ∃ j : Nat, s = .int .i64 j ∧ j ≤ n ∧ ∃ d, wr = w.drewN d) (fun s _ => n - (intOf s).toNat)
    case atStart => exact ⟨0, rfl, by omega, 0, rfl⟩
    case round =>
      obtain ⟨j, rfl, hj1, hd⟩ := hrel
      have HD : Hid (∃ d, wr = w.drewN d) := hd
      have hcr : ∀ a, wr.cell? a = w.cell? a := by obtain ⟨d, rfl⟩ := hd; exact fun a => rfl
      clear hd
      by_cases hj : j < n
      · have hj' : (j : Int) < n := by omega
        have d0 := (hcr _).trans (c1 j hj)
        have e0 := (hcr _).trans (c2 j hj)
        obtain ⟨z, hz⟩ : ∃ z, l.getD j 0 = z := ⟨_, rfl⟩
        rw [hz] at d0 e0
        have hzz : (z != z) = false := by simp
        clear hcr c1 c2 hz
        go_wp2
        go_quiet (fail)
        go_wp2
        go_roundw
        case rel => exact ⟨j + 1, by go_num, by omega, drawn_more HD _⟩
        case measure => simp [intOf]; omega
      · obtain rfl : n = j := by omega
        clear hcr c1 c2
        go_wp2
        go_ret
        exact ⟨rfl, HD.out⟩
  · obtain rfl : n = 0 := by omega
    go_enter Try.func36, Try.ntmps36
    go_wp2
    go_loop [5] (fun s => s = .int .i64 0) (fun _ => 0)
    case atStart => rfl
    case round =>
      subst hrel
      go_wp2
      go_ret
      exact ⟨rfl, 0, rfl⟩

theorem SameBools_same (w : World) (a1 a2 : Option Addr) (n cap1 cap2 : Nat) (l : List Bool) (h1 : BoolsIn w a1 n cap1 l) (h2 : BoolsIn w a2 n cap2 l) :
   Calls Try.prog 37 #[.slice a1 n cap1, .slice a2 n cap2] w fun e w' => e = .returned (.bool true) ∧ ∃ d, w' = w.drewN d := by
  have hle := h1.le
  have hcb := h1.capb
  have HC1 := hid h1.cells
  have HC2 := hid h2.cells
  clear h1 h2
  have hne : ((n : Int) != n) = false := by simp
  by_cases hp : 0 < n
  · obtain ⟨b1, o1, rfl, c1⟩ := HC1.out hp
    obtain ⟨b2, o2, rfl, c2⟩ := HC2.out hp
    go_enter Try.func37, Try.ntmps37
    go_wp2
    go_loopw [5] (fun s wr => ∃ j : Nat, s = .int .i64 j ∧ j ≤ n ∧ ∃ d, wr = w.drewN d) (fun s _ => n - (intOf s).toNat)
    case atStart => exact ⟨0, rfl, by omega, 0, rfl⟩
    case round =>
      obtain ⟨j, rfl, hj1, hd⟩ := hrel
      have HD : Hid (∃ d, wr = w.drewN d) := hd
      have hcr : ∀ a, wr.cell? a = w.cell? a := by obtain ⟨d, rfl⟩ := hd; exact fun a => rfl
      clear hd
      by_cases hj : j < n
      · have hj' : (j : Int) < n := by omega
        have d0 := (hcr _).trans (c1 j hj)
        have e0 := (hcr _).trans (c2 j hj)
        obtain ⟨z, hz⟩ : ∃ z, l.getD j false = z := ⟨_, rfl⟩
        rw [hz] at d0 e0
        have hzz : (z != z) = false := by simp
        clear hcr c1 c2 hz
        go_wp2
        go_quiet (fail)
        go_wp2
        go_roundw
        case rel => exact ⟨j + 1, by go_num, by omega, drawn_more HD _⟩
        case measure => simp [intOf]; omega
      · obtain rfl : n = j := by omega
        clear hcr c1 c2
        go_wp2
        go_ret
        exact ⟨rfl, HD.out⟩
  · obtain rfl : n = 0 := by omega
    go_enter Try.func37, Try.ntmps37
    go_wp2
    go_loop [5] (fun s => s = .int .i64 0) (fun _ => 0)
    case atStart => rfl
    case round =>
      subst hrel
      go_wp2
      go_ret
      exact ⟨rfl, 0, rfl⟩
end Go.Proofs.Ytphcphbmojioiaa
