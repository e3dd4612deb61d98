/- Contract of tree.sameName: names that were seen lie in a map. -/
import Derived.Test.YtcgchicdmgllaadTreeC
import Derived.Maps.Own
import Derived.Maps.OwnOps
import Derived.Maps.Views
namespace Go.Proofs.Ytcgchicdmgllaad
open Go.RowKit Go.WideMaps Go.Maps

def nm (l : QL) (i : Nat) : List UInt8 := (qu l i).name.data.toList
/-- does a queue ahead bear queue k's name, below index m? -/
def sameBefore (l : QL) (k : Nat) : Nat → Bool
  | 0 => false
  | i + 1 => sameBefore l k i || (nm l i == nm l k)
def nodupTo (l : QL) : Nat → Bool
  | 0 => true
  | k + 1 => nodupTo l k && !sameBefore l k k
theorem sameBefore_iff {l : QL} {k : Nat} : ∀ {m : Nat}, sameBefore l k m = true ↔ ∃ i, i < m ∧ nm l i = nm l k
  | 0 => by simp [sameBefore]
  | m + 1 => by
    simp only [sameBefore, Bool.or_eq_true, sameBefore_iff (m := m), beq_iff_eq]
    constructor
    · rintro (⟨i, h1, h2⟩ | h)
      · exact ⟨i, by omega, h2⟩
      · exact ⟨m, by omega, h⟩
    · rintro ⟨i, h1, h2⟩
      by_cases e : i = m
      · subst e; exact Or.inr h2
      · exact Or.inl ⟨i, by omega, h2⟩
theorem nodupTo_false {l : QL} {k : Nat} (h : sameBefore l k k = true) : ∀ n, k < n → nodupTo l n = false
  | 0, hn => by omega
  | n + 1, hn => by
    by_cases e : k = n
    · subst e; rw [nodupTo, h]; simp
    · rw [nodupTo, nodupTo_false h n (by omega)]; rfl

/-- a cell of another block, behind a law that ends in grownBy -/
theorem grown_cell {w w' : World} {row g : Nat} (h : w.grownBy w' (some row)) (hg : g < w.heap.size) (hne : g ≠ row) (i : Nat) : w'.cell? ⟨g, i, none⟩ = w.cell? ⟨g, i, none⟩ :=
  World.cell?_of_block (w := w) (h.block g hg (fun e => hne (by injection e)))
theorem keyed9 : Keyed Try.prog 9 := string_keyed Try.underlying9
theorem zero3 (w : World) : (zeroValue 3).run Try.prog w = .ok (.int .i64 0) w := by kernel_rfl

/-- the map holds 1 at each name of the first j queues, and nothing else -/
def SeenTo (l : QL) (j : Nat) (D : DataW Unit) : Prop :=
  IsMap D ∧ (∀ i, i < j → D.atKey (.string (nm l i)) (.lit (.int .i64 0)) = .lit (.int .i64 1)) ∧ (∀ s, (∀ i, i < j → nm l i ≠ s) → D.atKey (.string s) (.lit (.int .i64 0)) = .lit (.int .i64 0))
theorem SeenTo.zero (l : QL) : SeenTo l 0 (.map []) := ⟨isMap_empty, fun i hi => by omega, fun s _ => rfl⟩
theorem SeenTo.next {l : QL} {j : Nat} {D : DataW Unit} (h : SeenTo l j D) : SeenTo l (j + 1) (D.put (.string (nm l j)) (.lit (.int .i64 1))) := by
  refine ⟨h.1.put _ _, fun i hi => ?_, fun s hs => ?_⟩
  · by_cases e : nm l i = nm l j
    · rw [e, atKey_put_same h.1 (show WideAt.IsKeyLit (.string (nm l j)) from trivial)]
    · rw [atKey_put_other (by intro q; injection q with q; exact e q)]
      exact h.2.1 i (by
        by_cases e2 : i = j
        · subst e2; exact absurd rfl e
        · omega)
  · rw [atKey_put_other (by intro q; injection q with q; exact hs j (by omega) q.symm)]
    exact h.2.2 s (fun i hi => hs i (by omega))

set_option maxRecDepth 100000 in
set_option maxHeartbeats 1000000 in
theorem sameName_any (w : World) (a : Option Addr) (n cap : Nat) (l : QL) (h : QsIn w a n cap l) (hp : 0 < n) (h5 : n ≤ 5) :
    Calls Try.prog 84 #[.slice a n cap] w fun e w' => e = .returned (.bool (!nodupTo l n)) ∧ Below w.heap.size w w' := by
  have hle := h.le
  have hbd := h.capb
  obtain ⟨b, off, rfl, hc⟩ := h.cells hp
  have HC := hid hc
  clear hc
  have hmm := @run_makeMap Try.prog
  go_enter Try.func84, Try.ntmps84
  go_wp2
  go_loopw [5, 9] (fun _ st wr => ∃ (j : Nat) (D : DataW Unit), st = .int .i64 j ∧ j ≤ n ∧ nodupTo l j = true ∧ wr.ownsMap Try.prog 9 (plainElem Try.prog 3) w.heap.size j D ∧ SeenTo l j D ∧ Below w.heap.size w wr) (fun _ st _ => n - (intOf st).toNat)
  case atStart => exact ⟨0, .map [], rfl, by omega, rfl, World.ownsMap_made _ _ _ _, SeenTo.zero l, (Below.refl _ _).alloc (Nat.le_refl _) _⟩
  case round =>
    obtain ⟨j, D, rfl, hj, hall, hown, hseen, hbel⟩ := hrel
    have HA := hid hall
    have HB := hid hbel
    have HO := hid hown
    have HS := hid hseen
    have hsz : w.heap.size ≤ wr.heap.size := hbel.size
    have hlt0 : w.heap.size < wr.heap.size := hown.lt
    clear hall hbel hown hseen
    by_cases hlt : j < n
    · have hlt' : (j : Int) < n := by omega
      have c0 := cell_later HB.out (HC.out j hlt).1
      have c1 := cell_later HB.out (HC.out j hlt).2.1
      have c2 := cell_later HB.out (HC.out j hlt).2.2
      have hkey : Hid (keyOf Try.prog 9 (.string (qu l j).name) = some (.string (nm l j))) := keyOf_string_mk Try.underlying9 (h.names j hlt)
      obtain ⟨q, hq⟩ : ∃ q, qu l j = q := ⟨_, rfl⟩
      rw [hq] at c0 c1 c2 hkey
      have HQ := hid hq
      clear hq
      have HO2 := hid (HO.out.alloc (.cells #[.string q.name, .int .i64 q.parent, .slice q.ca q.cn q.cc] 72))
      obtain ⟨c, hrun, hat, _⟩ := HO2.out.lookup_int keyed9 Try.underlying136 Try.underlying3 (zero3 _) hkey.out
      have HAT := hid hat
      clear hat
      cases g : sameBefore l j j with
      | true =>
        have hc1 : c = 1 := by
          obtain ⟨i, hi, e⟩ := sameBefore_iff.1 g
          have := HS.out.2.1 i hi
          rw [e, HAT.out] at this
          injection this with q; injection q
        subst hc1
        have tok : True := trivial
        go_wp2_with (at_mapUpdate; have _t := tok; refine wpList_mapUpdate_own _ rfl _ _ _ 136 rfl 9 3 keyed9 Try.underlying136 _ w.heap.size j _ rfl HO2.out (by unfold maxLen; omega) _ _ _ rfl rfl hkey.out _ [] (plainElem_int Try.underlying3 (WalkArith.wf_i64 (by omega))) ?_; clear tok)
        intro w1 hown1 hgrow1
        have d0 := grown_cell hgrow1 (by simp) (show wr.heap.size ≠ w.heap.size by omega) 0
        simp only [World.cell?_alloc_at _ _ _ _ rfl] at d0
        have HB1 := hid ((HB.out.alloc hsz _).grown hgrow1 (by simp; omega) (fun k hk => by cases hk; exact Nat.le_refl _))
        obtain ⟨c2, hrun2, hat2, _⟩ := hown1.lookup_int keyed9 Try.underlying136 Try.underlying3 (zero3 _) hkey.out
        have hc2 : c2 = 2 := by
          rw [atKey_put_same HS.out.1 (show WideAt.IsKeyLit (.string (nm l j)) from trivial)] at hat2
          injection hat2 with q; injection q with _ q; exact q.symm
        subst hc2
        clear hown1 hgrow1 hat2 hrun
        go_wp2
        go_ret
        exact ⟨ret_bool (by rw [nodupTo_false g n hlt]; rfl), HB1.out⟩
      | false =>
        have hnot : ∀ i, i < j → nm l i ≠ nm l j := fun i hi e => by
          have := sameBefore_iff.2 ⟨i, hi, e⟩
          rw [g] at this; cases this
        have hc1 : c = 0 := by
          have := HS.out.2.2 (nm l j) hnot
          rw [HAT.out] at this
          injection this with q; injection q
        subst hc1
        clear hnot
        have tok : True := trivial
        go_wp2_with (at_mapUpdate; have _t := tok; refine wpList_mapUpdate_own _ rfl _ _ _ 136 rfl 9 3 keyed9 Try.underlying136 _ w.heap.size j _ rfl HO2.out (by unfold maxLen; omega) _ _ _ rfl rfl hkey.out _ [] (plainElem_int Try.underlying3 (WalkArith.wf_i64 (by omega))) ?_; clear tok)
        intro w1 hown1 hgrow1
        have d0 := grown_cell hgrow1 (by simp) (show wr.heap.size ≠ w.heap.size by omega) 0
        simp only [World.cell?_alloc_at _ _ _ _ rfl] at d0
        have HB1 := hid ((HB.out.alloc hsz _).grown hgrow1 (by simp; omega) (fun k hk => by cases hk; exact Nat.le_refl _))
        have HO1 := hid hown1
        obtain ⟨c2, hrun2, hat2, _⟩ := hown1.lookup_int keyed9 Try.underlying136 Try.underlying3 (zero3 _) hkey.out
        have hc2 : c2 = 1 := by
          rw [atKey_put_same HS.out.1 (show WideAt.IsKeyLit (.string (nm l j)) from trivial)] at hat2
          injection hat2 with q; injection q with _ q; exact q.symm
        subst hc2
        clear hown1 hgrow1 hat2 hrun
        go_wp2
        go_roundw
        case rel => exact ⟨j + 1, _, by go_num, by omega, by rw [nodupTo, HA.out, g]; rfl, HO1.out, HS.out.next, HB1.out⟩
        case measure => simp [intOf]; omega
    · obtain rfl : j = n := by omega
      go_wp2
      go_ret
      exact ⟨ret_bool (by rw [HA.out]; rfl), HB.out⟩
end Go.Proofs.Ytcgchicdmgllaad
