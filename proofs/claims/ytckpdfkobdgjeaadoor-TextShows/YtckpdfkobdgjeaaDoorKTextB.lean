/- Package text: the number of a name among queues (slices.IndexFunc with queue's literal); plain facts on words. -/
import Derived.Test.YtckpdfkobdgjeaaDoorKTextA
import Derived.Test.YtckpdfkobdgjeaaDoorKTextQ
import Derived.Deep.LoopGhost
namespace Go.Proofs.YtckpdfkobdgjeaaDoor
open Go.RowKit
def tqOf (q : Qu) : TQ := (q.name.data.toList, q.parent, q.runs)
def tqs (l : QL) : List TQ := l.map tqOf
theorem tqs_len (l : QL) : (tqs l).length = l.length := by simp [tqs]
theorem tqs_at (l : QL) (i : Nat) : tq (tqs l) i = tqOf (qu l i) := by
  by_cases h : i < l.length
  · simp [tq, tqs, qu, List.getD, h]
  · simp [tq, tqs, qu, List.getD, List.getElem?_eq_none (Nat.le_of_not_lt h)]; rfl
theorem bytes_ext {a b : ByteArray} : a.data.toList = b.data.toList ↔ a = b := by
  constructor
  · intro h
    cases a; cases b
    simp at h
    rw [h]
  · intro h; rw [h]
set_option maxHeartbeats 400000 in
theorem queue1_any (q : Qu) (ab : ByteArray) (w : World) (A : Nat) (hA : w.cell? ⟨A, 0, none⟩ = some (.string ab)) :
    Calls Tryd.prog 40 #[.agg #[.string q.name, .int .i64 q.parent, .slice q.ca q.cn q.cc], .pointer (some ⟨A, 0, none⟩)] w fun e w' => e = .returned (.bool (decide (q.name.data.toList = ab.data.toList))) ∧ Below w.heap.size w w' := by
  have hA2 := cell_later ((Below.refl w.heap.size w).alloc (Nat.le_refl _) (.cells #[.string q.name, .int .i64 q.parent, .slice q.ca q.cn q.cc] 41)) hA
  go_enter Tryd.func40, Tryd.ntmps40
  go_wp2
  go_ret
  refine ⟨?_, (Below.refl _ _).alloc (Nat.le_refl _) _⟩
  rw [Lib.toList_data, Lib.toList_data]
  by_cases e : q.name.data.toList = ab.data.toList
  · rw [decide_eq_true e, beq_iff_eq.2 e]; rfl
  · rw [decide_eq_false e, beq_eq_false_iff_ne.2 e]; rfl
set_option maxHeartbeats 1000000 in
theorem IndexName_any (w : World) (a : Option Addr) (n cap : Nat) (l : QL) (h : QsIn w a n cap l) (A : Nat) (ab : ByteArray) (hA : w.cell? ⟨A, 0, none⟩ = some (.string ab)) :
    Calls Tryd.prog 39 #[.slice a n cap, .func (.func 40) #[] #[.pointer (some ⟨A, 0, none⟩)]] w fun e w' => e = .returned (.int .i64 (idxName (tqs l) ab.data.toList)) ∧ Below w.heap.size w w' := by
  have HN := hid h.len
  have hle := h.le
  have hbd := h.capb
  have HC := hid h.cells
  have HH := hid hA
  clear hA
  go_enter Tryd.func39, Tryd.ntmps39
  go_wp2
  go_loopw [5, 8] (fun _ st wr => ∃ k : Nat, st = .int .i64 k ∧ k ≤ n ∧ (∀ j, j < k → (tq (tqs l) j).1 ≠ ab.data.toList) ∧ Below w.heap.size w wr) (fun _ st _ => n - (intOf st).toNat)
  case atStart => exact ⟨0, rfl, by omega, fun j hj => by omega, Below.refl _ _⟩
  case round =>
    obtain ⟨j, rfl, hj, hall, hbel⟩ := hrel
    have HA := hid hall
    have HB := hid hbel
    clear hall hbel
    by_cases hlt : j < n
    · have hlt' : (j : Int) < n := by omega
      obtain ⟨b, off, rfl, hc⟩ := HC.out (by omega)
      have c0 := cell_later HB.out (hc j hlt).1
      have c1 := cell_later HB.out (hc j hlt).2.1
      have c2 := cell_later HB.out (hc j hlt).2.2
      have HK := hid (queue1_any (qu l j) ab wr A (cell_later HB.out HH.out))
      clear hc
      by_cases g : (qu l j).name.data.toList = ab.data.toList
      · go_wp2_with fail
        refine HK.out.mono ?_
        rintro e w1 ⟨rfl, hb1⟩
        rw [decide_eq_true g]
        go_wp2
        go_ret
        refine ⟨ret_int ?_, below_from HB.out hb1⟩
        rw [idxName, tqs_len, ← HN.out, idxTo_at hlt (by rw [tqs_at]; exact g) HA.out n (Nat.le_refl _) (by omega)]
      · go_wp2_with fail
        refine HK.out.mono ?_
        rintro e w1 ⟨rfl, hb1⟩
        have HB1 := hid hb1
        have HG := hid g
        rw [decide_eq_false g]
        clear hb1 g
        go_wp2
        go_roundw
        case rel => exact ⟨j + 1, by go_num, by omega, fun i hi => by
          by_cases e : i = j
          · subst e; rw [tqs_at]; exact HG.out
          · exact HA.out i (by omega), below_from HB.out HB1.out⟩
        case measure => simp [intOf]; omega
    · obtain rfl : j = n := by omega
      go_wp2
      go_ret
      refine ⟨ret_int ?_, HB.out⟩
      rw [idxName, tqs_len, ← HN.out, idxTo_none HA.out j (Nat.le_refl _)]
theorem fieldsGoD_len : ∀ (f : Nat) (cur l : Bs), (Lib.fieldsGoD f cur l).length ≤ f + 1
  | 0, cur, l => by simp only [Lib.fieldsGoD]; split <;> simp
  | f + 1, cur, l => by
    simp only [Lib.fieldsGoD]
    split
    · split <;> simp
    · split
      · have := fieldsGoD_len f [] (l.drop (Lib.decodeL l).2)
        rw [List.length_append]
        split <;> simp <;> omega
      · have := fieldsGoD_len f (cur ++ l.take (Lib.decodeL l).2) (l.drop (Lib.decodeL l).2)
        omega
theorem fieldsGoD_mem : ∀ (f : Nat) (cur l x : Bs), x ∈ Lib.fieldsGoD f cur l → x.length ≤ cur.length + l.length
  | 0, cur, l, x, h => by
    simp only [Lib.fieldsGoD] at h
    split at h
    · simp at h
    · simp at h; subst h; omega
  | f + 1, cur, l, x, h => by
    simp only [Lib.fieldsGoD] at h
    split at h
    · split at h
      · simp at h
      · simp at h; subst h; omega
    · split at h
      · rw [List.mem_append] at h
        rcases h with h | h
        · split at h
          · simp at h
          · simp at h; subst h; omega
        · have := fieldsGoD_mem f _ _ x h
          simp at this; omega
      · have := fieldsGoD_mem f _ _ x h
        simp at this; omega
theorem fieldsD_len (l : Bs) : (Lib.fieldsD l).length ≤ l.length + 2 := fieldsGoD_len _ _ _
theorem fieldsD_mem {l x : Bs} (h : x ∈ Lib.fieldsD l) : x.length ≤ l.length := by have := fieldsGoD_mem _ _ _ _ h; simpa using this
theorem own_runs {w : World} {B : Nat} {v : Value} {l : RunL} (h : OwnRuns w B v l) : ∃ a cap, v = .slice a l.length cap ∧ RunsIn w a l.length cap l ∧ ∀ b off, a = some ⟨b, off, none⟩ → off = 0 ∧ B ≤ b ∧ TyB w b 47 := by
  have h' := h
  rcases h'.2 with ⟨hv, hn⟩ | ⟨g, cap, cur, hv, hg, hh, hle, hcap, hs, ht⟩
  · have hl : l = [] := List.eq_nil_of_length_eq_zero hn
    subst hl
    exact ⟨none, 0, by simpa using hv, ⟨rfl, Nat.le_refl _, by simp, by simp, fun h => by simp at h⟩, fun b off e => by cases e⟩
  · subst hv
    refine ⟨some ⟨g, 0, none⟩, cap, rfl, ⟨rfl, hle, by simp only [maxLen] at hcap; omega, hcap, fun _ => ⟨g, 0, rfl, fun i hi => ⟨?_, ?_⟩⟩⟩, fun b off e => by cases e; exact ⟨rfl, hg, _, _, hh⟩⟩
    · rw [Nat.zero_add]; exact (World.ownsRow.cellAt h (i * 2) (by omega)).trans (cellsOf_even l i hi)
    · rw [Nat.zero_add]; exact (World.ownsRow.cellAt h (i * 2 + 1) (by omega)).trans (cellsOf_odd l i hi)
theorem infoRun : (Tryd.prog.info? 47).map (fun i => (i.zero, i.size, i.bytes)) = some (some (.agg #[.int .i64 0, .int .i64 0]), 2, 16) := by kernel_rfl
theorem run_put (w : World) (B : Nat) (v : Value) (l : RunL) (hO : OwnRuns w B v l) (x : Int × Int) (gL : Nat) (ty : TypeId) (hL : w.heap[gL]? = some (.cells #[.int .i64 x.1, .int .i64 x.2] 47 (0, 0))) (hl : l.length ≤ 99999) (hB : B ≤ w.heap.size) :
    ∃ g k w', (Builtin.append_ #[39, 39] ty #[v, .slice (some ⟨gL, 0, none⟩) 1 1]).run Tryd.prog w = .ok (.slice (some ⟨g, 0, none⟩) (l.length + 1) k) w' ∧ OwnRuns w' B (.slice (some ⟨g, 0, none⟩) (l.length + 1) k) (l ++ [x]) ∧ Below B w w' ∧ w.grownBy w' v.ownBlock := by
  obtain ⟨i0, hi, e⟩ := Option.map_eq_some_iff.1 infoRun
  simp only [Prod.mk.injEq] at e
  obtain ⟨e1, e2, e3⟩ := e
  obtain ⟨g9, k9, w', h1, h2, h3, h4, h5⟩ := run_append_lies w 39 ty B 47 i0 _ 2 16 Tryd.underlying39 hi e1 e2 e3 (by rfl) (by omega) v l.length (cellsOf l) hO ⟨gL, 0, none⟩ 1 1 [.int .i64 x.1, .int .i64 x.2] (by simp)
    (fun j u hu => by rw [Addr.add_lit, Nat.zero_add, cell_of_row w gL j _ _ _ hL]; simpa using hu) (two_one x.1 x.2) (by omega) (by simp only [maxLen]; omega) (by omega) hB w.heap.size rfl
  refine ⟨g9, k9, w', h1, ?_, (Below.refl B w).grown h3 hB (fun k e => (World.ownsRow.lt hO k e).1), h3⟩
  unfold OwnRuns
  rw [List.length_append, List.length_singleton, cellsOf_app]
  exact h2
end Go.Proofs.YtckpdfkobdgjeaaDoor
