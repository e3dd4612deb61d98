/- Contracts of the reference's spread and folded: a table of 48 numbers, as an array in memory, from runs and back. -/
import Derived.Test.YtlkaamgmjgkpaacRunsD
import Derived.Laws.Rows
import Derived.Laws.CopyOwn
namespace Go.Proofs.Ytlkaamgmjgkpaac
open Go.RowKit

/-- a table's cells -/
def tabA (f : Nat → Int) : Array Value := ((List.range 48).map fun i => Value.int .i64 (f i)).toArray
theorem tabA_size (f : Nat → Int) : (tabA f).size = 48 := by simp [tabA]
theorem tabA_get (f : Nat → Int) (i : Nat) (h : i < 48) : (tabA f)[i]? = some (.int .i64 (f i)) := by
  simp [tabA, h]
theorem tabA_congr {f g : Nat → Int} (h : ∀ i, i < 48 → f i = g i) : tabA f = tabA g := by
  unfold tabA
  congr 1
  apply List.map_congr_left
  intro i hi
  rw [h i (List.mem_range.1 hi)]
/-- one number changed -/
def upd (f : Nat → Int) (t : Nat) (x : Int) (i : Nat) : Int := if i = t then x else f i
theorem tabA_set (f : Nat → Int) (t : Nat) (x : Int) : (tabA f).setIfInBounds t (.int .i64 x) = tabA (upd f t x) := by
  apply Array.ext_getElem?
  intro i
  rw [Array.getElem?_setIfInBounds]
  by_cases hi : i < 48
  · by_cases e : t = i
    · subst e
      rw [if_pos rfl, tabA_get _ _ hi, if_pos (by rw [tabA_size]; exact hi)]
      simp [upd]
    · rw [if_neg e, tabA_get _ _ hi, tabA_get _ _ hi]
      rw [show upd f t x i = f i from if_neg (fun h => e h.symm)]
  · have h1 : ∀ f, (tabA f)[i]? = none := fun f => by rw [Array.getElem?_eq_none_iff, tabA_size]; omega
    rw [h1, h1]
    by_cases e : t = i
    · rw [if_pos e, if_neg (by rw [tabA_size]; omega)]
    · rw [if_neg e]
theorem tabA_one (f : Nat → Int) : (tabA f).all (·.oneCell') = true := by
  rw [Array.all_eq_true_iff_forall_mem]
  intro v hv
  simp only [tabA, List.mem_toArray, List.mem_map] at hv
  obtain ⟨i, _, rfl⟩ := hv
  rfl
theorem tabA_zero : tabA (fun _ => 0) = #[Value.int .i64 0, .int .i64 0, .int .i64 0, .int .i64 0, .int .i64 0, .int .i64 0, .int .i64 0, .int .i64 0, .int .i64 0, .int .i64 0, .int .i64 0, .int .i64 0, .int .i64 0, .int .i64 0, .int .i64 0, .int .i64 0, .int .i64 0, .int .i64 0, .int .i64 0, .int .i64 0, .int .i64 0, .int .i64 0, .int .i64 0, .int .i64 0, .int .i64 0, .int .i64 0, .int .i64 0, .int .i64 0, .int .i64 0, .int .i64 0, .int .i64 0, .int .i64 0, .int .i64 0, .int .i64 0, .int .i64 0, .int .i64 0, .int .i64 0, .int .i64 0, .int .i64 0, .int .i64 0, .int .i64 0, .int .i64 0, .int .i64 0, .int .i64 0, .int .i64 0, .int .i64 0, .int .i64 0, .int .i64 0] := rfl

/-- a table lies in block g -/
def Tab (w : World) (g : Nat) (f : Nat → Int) : Prop := w.heap[g]? = some (.cells (tabA f) 69 (0, 0))
theorem Tab.cell {w : World} {g : Nat} {f : Nat → Int} (h : Tab w g f) {i : Nat} (hi : i < 48) : w.cell? ⟨g, i, none⟩ = some (.int .i64 (f i)) := by
  rw [cell_of_row w g i _ _ _ h, tabA_get f i hi]
theorem Tab.frozen {w : World} {g : Nat} {f : Nat → Int} (h : Tab w g f) (i : Nat) : w.frozen? ⟨g, i, none⟩ = false := frozen_of_row w g i _ _ h
theorem Tab.lt {w : World} {g : Nat} {f : Nat → Int} (h : Tab w g f) : g < w.heap.size := (Array.getElem?_eq_some_iff.1 h).1
theorem Tab.set {w : World} {g : Nat} {f : Nat → Int} (h : Tab w g f) (t : Nat) (x : Int) : Tab (w.setCell ⟨g, t, none⟩ (.int .i64 x)) g (upd f t x) := by
  unfold Tab
  rw [heap_setCell_same w g t _ _ _ h, tabA_set]
theorem Tab.other {w : World} {g : Nat} {f : Nat → Int} (h : Tab w g f) {a : Addr} (ha : g ≠ a.block) (v : Value) : Tab (w.setCell a v) g f := by
  unfold Tab
  rw [heap_setCell_other w a g v ha]; exact h
theorem Tab.new (w : World) (f : Nat → Int) : Tab (w.alloc (.cells (tabA f) 69)) w.heap.size f := heap_alloc_new w _
theorem Tab.alloc {w : World} {g : Nat} {f : Nat → Int} (h : Tab w g f) (o : Obj) : Tab (w.alloc o) g f := by
  unfold Tab
  rw [Below.heap_alloc w o g h.lt]; exact h
theorem Tab.later {w w' : World} {g : Nat} {f : Nat → Int} (h : Tab w g f) (hb : Below w.heap.size w w') : Tab w' g f := by
  unfold Tab
  rw [hb.block g h.lt]; exact h
theorem Try.size61 : (Try.prog.info? 69).map (·.size) = some 48 := by kernel_rfl
theorem size61 (f : Nat → Int) : (Try.prog.info? 69).map (·.size) = some (tabA f).size := by rw [tabA_size]; exact Try.size61

theorem upd_to {f v : Nat → Int} {t : Nat} {x : Int} (h : ∀ i, i < t → f i = v i) (hx : x = v t) : ∀ i, i < t + 1 → upd f t x i = v i := by
  intro i hi
  by_cases e : i = t
  · subst e; rw [upd, if_pos rfl]; exact hx
  · rw [upd, if_neg e]; exact h i (by omega)
/-- run k is the one that holds at t, or the one ahead -/
theorem spread_step {l : RunL} (hF : Fine l) {t k : Nat} (hk : k < l.length) (h1 : rAt l k ≤ t) (h2 : k + 1 < l.length → (t : Int) ≤ rAt l (k + 1)) :
    (k + 1 < l.length ∧ rAt l (k + 1) = t → Reached l t (k + 1)) ∧ (¬ (k + 1 < l.length ∧ rAt l (k + 1) = t) → Reached l t k) := by
  refine ⟨fun ⟨g1, g2⟩ => ⟨g1, by omega, fun g3 => by have := hF.lt g3; omega⟩, fun g => ⟨hk, h1, fun g3 => ?_⟩⟩
  have := h2 g3
  by_cases e : rAt l (k + 1) = t
  · exact absurd ⟨g3, e⟩ g
  · omega

set_option maxHeartbeats 1000000 in
theorem spread_any (w : World) (b off n cap : Nat) (l : RunL) (h : RunsIn w (some ⟨b, off, none⟩) n cap l) (hF : Fine l) :
   Calls Try.prog 37 #[.slice (some ⟨b, off, none⟩) n cap] w fun e w' => e = .returned (.agg (tabA (vals l))) ∧ Below w.heap.size w w' := by
  have N1 : Hid (n = l.length) := h.len
  have p1 : 0 < n := by rw [N1.out]; exact hF.1
  obtain ⟨b', off', e, hc⟩ := h.cells p1
  cases e
  have HC := hid hc
  have hlt : b < w.heap.size := block_lt_of_cell (hc 0 p1).1
  have le1 := h.le
  have bd1 := h.bound
  have HF := hid hF
  clear hc hF
  go_enter Try.func37, Try.ntmps37
  go_wp2
  go_loopw [4, 5] (fun sk st wr => ∃ (t k : Nat) (f : Nat → Int), st = .int .i64 t ∧ t ≤ 48 ∧ sk = .int .i64 k ∧ k < n ∧ rAt l k ≤ t ∧ (k + 1 < n → (t : Int) ≤ rAt l (k + 1)) ∧ (∀ i, i < t → f i = vals l i) ∧ Tab wr w.heap.size (fun _ => 0) ∧ Tab wr (w.heap.size + 1) f ∧ Below w.heap.size w wr) (fun _ st _ => 48 - (intOf st).toNat)
  case atStart =>
    refine ⟨0, 0, fun _ => 0, rfl, by omega, rfl, p1, by rw [HF.out.at0]; exact Int.le_refl _, fun h2 => by have := HF.out.nonneg (i := 1) (by have := N1.out; omega); exact this, fun i hi => by omega, ?_, ?_, ?_⟩
    · rw [← tabA_zero]; exact (Tab.new w _).alloc _
    · rw [← tabA_zero]; have := Tab.new (w.alloc (.cells (tabA fun _ => 0) 69)) (fun _ => 0); rwa [World.size_alloc] at this
    · exact ((Below.refl _ _).alloc (Nat.le_refl _) _).alloc (by simp) _
  case round =>
    obtain ⟨t, k, f, rfl, ht, rfl, hk, ak, ak1, hf, ht0, ht1, hbel⟩ := hrel
    by_cases htl : t < 48
    · have htl' : (t : Int) < 48 := by omega
      have cT : Hid (Tab wr (w.heap.size + 1) f) := ht1
      have cT0 : Hid (Tab wr w.heap.size (fun _ => 0)) := ht0
      have tc := ht1.cell htl
      have tfz := ht1.frozen t
      have HB := hid hbel
      have HFV := hid hf
      have st := hid (spread_step HF.out (by have := N1.out; omega) ak (fun h => ak1 (by have := N1.out; omega)))
      clear hf ht0 ht1 hbel ak ak1
      by_cases hk1 : k + 1 < n
      · have hk1' : (k : Int) + 1 < n := by omega
        have ck := cell_later HB.out (HC.out (k + 1) hk1).1
        have cn := cell_later HB.out (HC.out k hk).2
        have cn1 := cell_later HB.out (HC.out (k + 1) hk1).2
        by_cases he : rAt l (k + 1) = (t : Int)
        · have he' : (rAt l (k + 1) == (t : Int)) = true := by simp [he]
          have HE := hid he
          clear he
          go_wp2
          go_roundw
          case rel => exact ⟨t + 1, k + 1, _, by go_num, by omega, by go_num, hk1, by have := HE.out; omega, fun h => by have := (st.out.1 ⟨by have := N1.out; omega, HE.out⟩).2.2 (by have := N1.out; omega); omega, upd_to HFV.out ((st.out.1 ⟨by have := N1.out; omega, HE.out⟩).val HF.out.rises), cT0.out.other (by simp) _, cT.out.set t _, HB.out.setCell (by simp) _⟩
          case measure => simp [intOf]; omega
        · have he' : (rAt l (k + 1) == (t : Int)) = false := by simp [he]
          go_wp2
          go_roundw
          case rel => exact ⟨t + 1, k, _, by go_num, by omega, rfl, hk, by have := (st.out.2 (fun h => he h.2)).2.1; omega, fun h => by have := (st.out.2 (fun h => he h.2)).2.2 (by have := N1.out; omega); omega, upd_to HFV.out ((st.out.2 (fun h => he h.2)).val HF.out.rises), cT0.out.other (by simp) _, cT.out.set t _, HB.out.setCell (by simp) _⟩
          case measure => simp [intOf]; omega
      · have hk1' : ¬ (k : Int) + 1 < n := by omega
        have cn := cell_later HB.out (HC.out k hk).2
        go_wp2
        go_roundw
        case rel => exact ⟨t + 1, k, _, by go_num, by omega, rfl, hk, by have := (st.out.2 (fun h => hk1 (by have := N1.out; omega))).2.1; omega, fun h => absurd h hk1, upd_to HFV.out ((st.out.2 (fun h => hk1 (by have := N1.out; omega))).val HF.out.rises), cT0.out.other (by simp) _, cT.out.set t _, HB.out.setCell (by simp) _⟩
        case measure => simp [intOf]; omega
    · obtain rfl : t = 48 := by omega
      have e1 : tabA f = tabA (vals l) := tabA_congr hf
      unfold Tab at ht0 ht1
      rw [e1] at ht1
      have HT0 := hid ht0
      have HT1 := hid ht1
      have HB := hid hbel
      clear ht0 ht1 hbel hf e1
      go_wp2_with (first
        | refine wpList_load_row rfl 69 (.tmp 3) rfl (w.heap.size + 1) rfl 69 (tabA (vals l)) (0, 0) _ HT1.out Try.underlying69 rfl (size61 _) ?_
        | refine wpList_store_row rfl 69 (.tmp 2) (.tmp 34) rfl w.heap.size (tabA (vals l)) rfl rfl 69 _ HT0.out (size61 _) (by rw [tabA_size, tabA_size]) (tabA_one _) ?_)
      exact bodyPost_ret (v := .agg (tabA (vals l))) (results_cell_row Try.results37 _ _ w.heap.size 69 (tabA (vals l)) (0, 0) _ rfl (setRow_heap _ _ _ _ _ _ HT0.out) Try.underlying69 rfl (size61 _)) rfl ⟨rfl, below_setRow HB.out (Nat.le_refl _) _⟩

theorem OwnRuns.base {w : World} {B B' : Nat} {v : Value} {l : RunL} (h : OwnRuns w B v l) (hb : B' ≤ B) : OwnRuns w B' v l := by
  refine ⟨h.1, ?_⟩
  rcases h.2 with h2 | ⟨g, cap, cur, hv, hg, hr⟩
  · exact Or.inl h2
  · exact Or.inr ⟨g, cap, cur, hv, by omega, hr⟩

end Go.Proofs.Ytlkaamgmjgkpaac
