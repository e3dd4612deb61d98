/- slices.Delete of books, in a row of the call's own. -/
import Derived.Test.YtcgchicdmgllaaeBookD
import Derived.Deep.RegionLaw
import Derived.Lib.SliceRun
namespace Go.Proofs.Ytcgchicdmgllaae
open Go.RowKit

def zeroB : Value := .agg #[.int .i64 0, .int .i64 0, .int .i64 0, .int .i64 0, .int .i64 0, .slice none 0 0, .slice none 0 0]
theorem zeroBook (w : World) : (zeroValue 34).run Try.prog w = .ok zeroB w := by kernel_rfl
theorem zeros_len (n : Nat) : (Builtin.zeroCells zeroB.cells n).toList.length = n * 7 := by
  rw [Array.length_toList, size_zeroCells]; rfl
theorem zeros_one (n : Nat) : ∀ v ∈ (Builtin.zeroCells zeroB.cells n).toList, v.oneCell' = true := by
  intro v hv
  simp only [Builtin.zeroCells, Array.toList_map, List.mem_map] at hv
  obtain ⟨i, _, rfl⟩ := hv
  have h7 : zeroB.cells.size = 7 := rfl
  rw [h7]
  have hj : i % 7 < 7 := Nat.mod_lt _ (by omega)
  generalize i % 7 = j at hj
  match j, hj with
  | 0, _ => rfl
  | 1, _ => rfl
  | 2, _ => rfl
  | 3, _ => rfl
  | 4, _ => rfl
  | 5, _ => rfl
  | 6, _ => rfl
theorem setCells_row (w : World) (g o : Nat) (cur : Array Value) (t : TypeId) (vs : List Value) (hg : w.heap[g]? = some (.cells cur t (0, 0))) (hfit : o + vs.length ≤ cur.size) (h1 : ∀ v ∈ vs, v.oneCell' = true) :
    w.setCells g o vs = w.setRow g (cur.toList.take o ++ vs ++ cur.toList.drop (o + vs.length)).toArray := by
  have e1 := run_storeCells_at Try.prog g o t vs 0 cur w hg (by omega) h1
  have e2 := run_storeCells_cells (P := Try.prog) g o vs 0 w (fun j hj => by
    rw [cell_of_row w g _ _ _ _ hg, Array.getElem?_eq_getElem (by omega)]; rfl) (fun j hj => frozen_of_row w g _ _ _ hg) h1
  simp only [Nat.add_zero] at e1 e2
  rw [e1] at e2
  injection e2 with _ e2
  exact e2.symm
theorem clear_books (w : World) (g o n c : Nat) (ty : TypeId) (cur : Array Value) (hg : w.heap[g]? = some (.cells cur 34 (0, 0))) (hn : 0 < n) (hfit : o + n * 7 ≤ cur.size) :
    (Builtin.clear_ #[23] ty #[.slice (some ⟨g, o, none⟩) n c]).run Try.prog w = .ok (.tuple #[]) (w.setRow g (cur.toList.take o ++ (Builtin.zeroCells zeroB.cells n).toList ++ cur.toList.drop (o + n * 7)).toArray) := by
  have hst := run_storeCells_at Try.prog g o 34 (Builtin.zeroCells zeroB.cells n).toList 0 cur w hg (by rw [zeros_len]; omega) (zeros_one n)
  simp only [Nat.add_zero, zeros_len] at hst
  obtain ⟨m, rfl⟩ : ∃ m, n = m + 1 := ⟨n - 1, by omega⟩
  simp only [Builtin.clear_]
  simp [run_underlying Try.underlying23]
  unfold zeroB at hst
  rw [hst]
  simp [Result.andThen, zeroB]
theorem bkCells_take (b : BL) (i : Nat) (hi : i ≤ b.length) : (bkCells b).take (i * 7) = bkCells (b.take i) := by
  have e : bkCells b = bkCells (b.take i) ++ bkCells (b.drop i) := by rw [← bkCells_app, List.take_append_drop]
  have hl : (bkCells (b.take i)).length = i * 7 := by rw [bkCells_length]; simp; omega
  rw [e, ← hl, List.take_left]
theorem bkCells_drop (b : BL) (i : Nat) (hi : i ≤ b.length) : (bkCells b).drop (i * 7) = bkCells (b.drop i) := by
  have e : bkCells b = bkCells (b.take i) ++ bkCells (b.drop i) := by rw [← bkCells_app, List.take_append_drop]
  have hl : (bkCells (b.take i)).length = i * 7 := by rw [bkCells_length]; simp; omega
  rw [e, ← hl, List.drop_left]
theorem setRow_size (w : World) (g : Nat) (cs : Array Value) : (w.setRow g cs).heap.size = w.heap.size := by simp [World.setRow]
theorem Below.setRow {B : Nat} {a w : World} (h : Below B a w) {g : Nat} (hg : B ≤ g) (cs : Array Value) : Below B a (w.setRow g cs) :=
  h.trans ⟨rfl, rfl, rfl, by rw [setRow_size]; exact Nat.le_refl _, fun k hk => setRow_other w g k cs (by omega)⟩

set_option maxHeartbeats 4000000 in
set_option maxRecDepth 1000000 in
theorem Delete_any (w : World) (g bn k : Nat) (cur : Array Value) (b : BL) (i j : Nat) (hij : i < j) (hj : j ≤ bn) (hbl : bn = b.length) (hle : bn ≤ k) (_hm : k ≤ 9223372036854775807) (hg : w.heap[g]? = some (.cells cur 34 (0, 0))) (hcs : cur.size = k * 7) (htk : cur.toList.take (bn * 7) = bkCells b) :
    Calls Try.prog 20 #[.slice (some ⟨g, 0, none⟩) bn k, .int .i64 i, .int .i64 j] w fun e w' => e = .returned (.slice (some ⟨g, 0, none⟩) (bn - (j - i)) k) ∧ (∃ cur', w'.heap[g]? = some (.cells cur' 34 (0, 0)) ∧ cur'.size = k * 7 ∧ cur'.toList.take ((bn - (j - i)) * 7) = bkCells (b.take i ++ b.drop j)) ∧ (∀ x, x ≠ g → w'.heap[x]? = w.heap[x]?) ∧ w'.heap.size = w.heap.size ∧ ∀ B, B ≤ g → Below B w w' := by
  obtain ⟨i0, hi, e⟩ := Option.map_eq_some_iff.1 infoBook
  simp only [Prod.mk.injEq] at e
  obtain ⟨_, hz1, _⟩ := e
  obtain ⟨news, hnews⟩ : ∃ news, news = bkCells (b.drop j) := ⟨_, rfl⟩
  have hlen : news.length = (bn - j) * 7 := by rw [hnews, bkCells_length]; simp; omega
  have hdr : (cur.toList.take (bn * 7)).drop (j * 7) = news := by rw [htk, hnews, bkCells_drop b j (by omega)]
  have hget : ∀ (t : Nat) u, news[t]? = some u → cur[j * 7 + t]? = some u := fun t u hu => by
    rw [← hdr, List.getElem?_drop, List.getElem?_take] at hu
    split at hu
    · rw [← Array.getElem?_toList]; exact hu
    · cases hu
  obtain ⟨A, hA, hsrc⟩ : ∃ A : Addr, (if k = j then some (⟨g, 0, none⟩ : Addr) else some ⟨g, j * 7, none⟩) = some A ∧ Hid (∀ t u, news[t]? = some u → w.drew.cell? (A.add t) = some u) := by
    by_cases h : k = j
    · refine ⟨⟨g, 0, none⟩, by simp [h], fun t u hu => ?_⟩
      have h0 : news.length = 0 := by rw [hlen]; omega
      rw [List.length_eq_zero_iff.1 h0] at hu
      simp at hu
    · refine ⟨⟨g, j * 7, none⟩, by simp [h], fun t u hu => ?_⟩
      rw [Addr.add_lit]
      show w.cell? _ = _
      rw [cell_of_row w g _ _ _ _ hg]
      exact hget t u hu
  have s1 : Hid (news.length = (bn - j) * 7) := hlen
  have s2 : Hid (∀ u ∈ news, u.oneCell' = true) := by rw [hnews]; exact bkCells_one _
  have s3 : Hid (∀ t, t < news.length → (w.drew.cell? ⟨g, 0 + i * 7 + t, none⟩).isSome = true ∧ w.drew.frozen? ⟨g, 0 + i * 7 + t, none⟩ = false) := by
    intro t ht
    rw [hlen] at ht
    refine ⟨?_, frozen_of_row w.drew g _ _ _ hg⟩
    show (w.cell? _).isSome = true
    rw [cell_of_row w g _ _ _ _ hg, Array.getElem?_eq_getElem (by omega)]
    rfl
  obtain ⟨W1, hW1⟩ : ∃ W1, W1 = w.drew.setCells g (0 + i * 7) news := ⟨_, rfl⟩
  obtain ⟨c1, hc1⟩ : ∃ c1, c1 = (cur.toList.take (i * 7) ++ news ++ cur.toList.drop (i * 7 + news.length)).toArray := ⟨_, rfl⟩
  have hW1' : W1 = w.drew.setRow g c1 := by
    rw [hW1, hc1, Nat.zero_add]
    exact setCells_row w.drew g (i * 7) cur 34 news hg (by omega) s2.out
  have hc1s : c1.size = k * 7 := by rw [hc1]; simp; omega
  have hc1t : c1.toList.take ((i + (bn - j)) * 7) = bkCells (b.take i ++ b.drop j) := by
    have h1 : cur.toList.take (i * 7) = bkCells (b.take i) := by rw [← bkCells_take b i (by omega), ← htk, List.take_take]; congr 1; omega
    have h2 : (bkCells (b.take i) ++ news).length = (i + (bn - j)) * 7 := by rw [List.length_append, hlen, bkCells_length]; simp; omega
    rw [hc1, h1, ← h2]
    show ((bkCells (b.take i) ++ news) ++ _).take _ = _
    rw [List.take_left, hnews, bkCells_app]
  have hg1 : W1.heap[g]? = some (.cells c1 34 (0, 0)) := by rw [hW1']; exact setRow_heap w.drew g cur _ _ _ hg
  obtain ⟨c2, hc2⟩ : ∃ c2, c2 = (c1.toList.take ((i + (bn - j)) * 7) ++ (Builtin.zeroCells zeroB.cells (bn - (i + (bn - j)))).toList ++ c1.toList.drop ((i + (bn - j)) * 7 + (bn - (i + (bn - j))) * 7)).toArray := ⟨_, rfl⟩
  have hcl : ∀ ty, (Builtin.clear_ #[23] ty #[.slice (some ⟨g, (i + (bn - j)) * 7, none⟩) (bn - (i + (bn - j))) (k - (i + (bn - j)))]).run Try.prog W1 = .ok (.tuple #[]) (W1.setRow g c2) := fun ty => by
    rw [hc2]
    exact clear_books W1 g _ _ _ ty c1 hg1 (by omega) (by omega)
  have hc2s : c2.size = k * 7 := by
    have := zeros_len (bn - (i + (bn - j)))
    rw [Array.length_toList] at this
    rw [hc2]; simp [this]; omega
  have hc2t : c2.toList.take ((bn - (j - i)) * 7) = bkCells (b.take i ++ b.drop j) := by
    have h2 : (c1.toList.take ((i + (bn - j)) * 7)).length = (i + (bn - j)) * 7 := by rw [List.length_take, Array.length_toList]; omega
    rw [show bn - (j - i) = i + (bn - j) from by omega, hc2]
    show ((c1.toList.take _ ++ _) ++ _).take _ = _
    rw [List.append_assoc, List.take_left' h2, hc1t]
  have HF := hid (show (∃ cur', (W1.setRow g c2).heap[g]? = some (.cells cur' 34 (0, 0)) ∧ cur'.size = k * 7 ∧ cur'.toList.take ((bn - (j - i)) * 7) = bkCells (b.take i ++ b.drop j)) ∧ (∀ x, x ≠ g → (W1.setRow g c2).heap[x]? = w.heap[x]?) ∧ (W1.setRow g c2).heap.size = w.heap.size ∧ ∀ B, B ≤ g → Below B w (W1.setRow g c2) from by
    refine ⟨⟨c2, setRow_heap W1 g c1 _ _ _ hg1, hc2s, hc2t⟩, fun x hx => ?_, ?_, fun B hB => ?_⟩
    · rw [setRow_other _ _ _ _ hx, hW1', setRow_other _ _ _ _ hx]; rfl
    · rw [setRow_size, hW1', setRow_size]; rfl
    · rw [hW1']
      exact Below.setRow (a := w) (w := w.drew.setRow g c1) (Below.setRow (a := w) (w := w.drew) ⟨rfl, rfl, rfl, Nat.le_refl _, fun _ _ => rfl⟩ hB _) hB _)
  have hW : Hid (W1 = w.drew.setCells g (0 + i * 7) news) := hW1
  have hic : i ≤ k := by omega
  have hjc : j ≤ k := by omega
  have hne : ¬ i = j := by omega
  clear hW1 hW1' hg1 hg hget hdr hnews hlen hcs htk hbl hc1 hc1s hc1t hc2 hc2s hc2t
  go_enter Try.func20, Try.ntmps20
  go_wp2_with fail
  go_region_law (refine step_append_room rfl (.tmp 22) (.tmp 25) 23 rfl 34 i0 7 Try.underlying23 hi hz1 g 0 i k (by simp [Act.eval, Act.put]) A (bn - j) (k - j) news (by simp [Act.eval, Act.put]) s1.out hsrc.out s2.out (by omega) s3.out ?_; rw [← hW.out])
  go_wp2
  go_ret
  exact ⟨by rw [show bn - (j - i) = i + (bn - j) by omega]; rfl, HF.out⟩
end Go.Proofs.Ytcgchicdmgllaae
