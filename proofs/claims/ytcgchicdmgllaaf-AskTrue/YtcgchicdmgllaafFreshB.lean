/- Contracts of package fresh: Queues, Request. -/
import Derived.Test.YtcgchicdmgllaafFreshA
import Derived.Test.YtcgchicdmgllaafPlaceAll
namespace Go.Proofs.Ytcgchicdmgllaaf
open Go.RowKit

theorem RunsIn.set_away {w : World} {a : Option Addr} {n cap : Nat} {l : RunL} (h : RunsIn w a n cap l) (p : Addr) (u : Value) (hb : 0 < n → ∀ b off, a = some ⟨b, off, none⟩ → b ≠ p.block) : RunsIn (w.setCell p u) a n cap l :=
  h.of_away fun hp b off e => heap_setCell_other w p b u (hb hp b off e)
theorem RunsIn.old {w : World} {a : Option Addr} {n cap : Nat} {l : RunL} (h : RunsIn w a n cap l) (hp : 0 < n) : ∀ b off, a = some ⟨b, off, none⟩ → b < w.heap.size := fun _ _ e => h.lt hp e

theorem five_stores (w : World) (G : Nat) (t : TypeId) (x0 x1 x2 x3 x4 a b c d e : Value) (h : w.heap[G]? = some (.cells #[x0, x1, x2, x3, x4] t (0, 0))) :
    (((((w.setCell ⟨G, 0, none⟩ a).setCell ⟨G, 1, none⟩ b).setCell ⟨G, 2, none⟩ c).setCell ⟨G, 3, none⟩ d).setCell ⟨G, 4, none⟩ e).heap[G]? = some (.cells #[a, b, c, d, e] t (0, 0)) ∧
    ∀ k, k ≠ G → (((((w.setCell ⟨G, 0, none⟩ a).setCell ⟨G, 1, none⟩ b).setCell ⟨G, 2, none⟩ c).setCell ⟨G, 3, none⟩ d).setCell ⟨G, 4, none⟩ e).heap[k]? = w.heap[k]? := by
  have h0 := heap_setCell_same w G 0 _ t a h
  have h1 := heap_setCell_same _ G 1 _ t b h0
  have h2 := heap_setCell_same _ G 2 _ t c h1
  have h3 := heap_setCell_same _ G 3 _ t d h2
  have h4 := heap_setCell_same _ G 4 _ t e h3
  refine ⟨h4, fun k hk => ?_⟩
  rw [heap_setCell_other _ ⟨G, 4, none⟩ k _ hk, heap_setCell_other _ ⟨G, 3, none⟩ k _ hk, heap_setCell_other _ ⟨G, 2, none⟩ k _ hk, heap_setCell_other _ ⟨G, 1, none⟩ k _ hk, heap_setCell_other _ ⟨G, 0, none⟩ k _ hk]
theorem quCells_set : ∀ (l : QL) (j : Nat) (a : Option Addr) (n c : Nat) (rs : RunL), j < l.length → quCells (l.set j ⟨(qu l j).name, (qu l j).parent, a, n, c, rs⟩) = (quCells l).set (j * 3 + 2) (.slice a n c)
  | [], j, a, n, c, rs, h => by simp at h
  | x :: l, 0, a, n, c, rs, _ => rfl
  | x :: l, j + 1, a, n, c, rs, h => by
    have ih := quCells_set l j a n c rs (by simpa using h)
    rw [List.set_cons_succ, quCells, quCells, show (j + 1) * 3 + 2 = j * 3 + 2 + 1 + 1 + 1 from by omega]
    show quCell x ++ quCells (l.set j ⟨(qu l j).name, (qu l j).parent, a, n, c, rs⟩) = _
    rw [ih]
    rfl
theorem qu_set {l : QL} {j : Nat} (q : Qu) (hj : j < l.length) (i : Nat) : qu (l.set j q) i = if i = j then q else qu l i := by
  unfold qu
  rw [List.getD_eq_getElem?_getD, List.getD_eq_getElem?_getD, List.getElem?_set]
  by_cases e : j = i
  · subst e; simp [hj]
  · rw [if_neg e, if_neg (Ne.symm e)]
theorem bareQ_set {l : QL} {j : Nat} {q : Qu} (hj : j < l.length) (hq : q.bare = (qu l j).bare) : bareQ (l.set j q) = bareQ l := by
  apply List.ext_getElem?
  intro i
  unfold bareQ
  rw [List.getElem?_map, List.getElem?_map, List.getElem?_set]
  by_cases e : j = i
  · subst e
    rw [if_pos rfl, if_pos hj]
    have e2 : l[j]? = some (qu l j) := by rw [List.getElem?_eq_getElem hj]; simp [qu, List.getD, hj]
    rw [e2]
    simp [hq]
  · rw [if_neg e]

/-- queues that the call made -/
structure OwnQs (w : World) (B : Nat) (v : Value) (l : QL) : Prop where
  row : w.ownsRow B 35 3 v l.length (quCells l)
  caps : ∀ i, i < l.length → RunsIn w (qu l i).ca (qu l i).cn (qu l i).cc (qu l i).runs
  far : ∀ i, i < l.length → 0 < (qu l i).cn → ∀ b off, (qu l i).ca = some ⟨b, off, none⟩ → v.ownBlock ≠ some b
  names : ∀ i, i < l.length → (qu l i).name.size ≤ 9223372036854775807
theorem OwnQs.later {w w' : World} {B : Nat} {v : Value} {l : QL} (h : OwnQs w B v l) (hb : Below w.heap.size w w') : OwnQs w' B v l :=
  ⟨ownsRow_later h.row hb, fun i hi => (h.caps i hi).later hb, h.far, h.names⟩
theorem OwnQs.qs {w : World} {B : Nat} {v : Value} {l : QL} (h : OwnQs w B v l) : ∃ a cap, v = .slice a l.length cap ∧ QsIn w a l.length cap l ∧ ∀ b off, a = some ⟨b, off, none⟩ → B ≤ b ∧ off = 0 := own_qs h.row h.caps h.names
/-- one queue's Cap is changed -/
theorem OwnQs.store {w : World} {B g n c : Nat} {l : QL} (h : OwnQs w B (.slice (some ⟨g, 0, none⟩) n c) l) (hn : n = l.length) {j : Nat} (hj : j < l.length) {a : Option Addr} {m k : Nat} {rs : RunL} (hr : RunsIn w a m k rs) (hf : 0 < m → ∀ b off, a = some ⟨b, off, none⟩ → b ≠ g) :
    OwnQs (w.setCell ⟨g, j * 3 + 2, none⟩ (.slice a m k)) B (.slice (some ⟨g, 0, none⟩) n c) (l.set j ⟨(qu l j).name, (qu l j).parent, a, m, k, rs⟩) := by
  subst hn
  have hl : (l.set j ⟨(qu l j).name, (qu l j).parent, a, m, k, rs⟩).length = l.length := List.length_set
  refine ⟨?_, fun i hi => ?_, fun i hi => ?_, fun i hi => ?_⟩
  · rw [hl, quCells_set l j a m k rs hj]
    exact (h.row.stored (j * 3 + 2) (.slice a m k)).1
  · rw [hl] at hi
    rw [qu_set _ hj]
    split
    · exact hr.set_away _ _ hf
    · exact (h.caps i hi).set_away _ _ fun hp b off e e2 => h.far i hi hp b off e (by rw [e2]; rfl)
  · rw [hl] at hi
    rw [qu_set _ hj]
    split
    · intro hp b off e
      have := hf hp b off e
      simpa [Value.ownBlock] using Ne.symm this
    · exact h.far i hi
  · rw [hl] at hi
    rw [qu_set _ hj]
    split
    · exact h.names j hj
    · exact h.names i hi

set_option maxRecDepth 100000 in
set_option maxHeartbeats 1000000 in
theorem Queues_any (w : World) (a : Option Addr) (n cap : Nat) (l : QL) (h : QsIn w a n cap l) (hp : 0 < n) (hn : n ≤ 1000) (hcs : ∀ i, i < n → (qu l i).cn ≤ 1000) :
    Calls Try.prog 33 #[.slice a n cap] w fun e w' => ∃ g c' l', e = .returned (.slice (some ⟨g, 0, none⟩) n c') ∧ OwnQs w' w.heap.size (.slice (some ⟨g, 0, none⟩) n c') l' ∧ n = l'.length ∧ bareQ l' = bareQ l ∧ Below w.heap.size w w' ∧ n ≤ c' ∧ ∀ i, i < n → 0 < (qu l' i).cn → ∀ b off, (qu l' i).ca = some ⟨b, off, none⟩ → w.heap.size ≤ b := by
  obtain ⟨qb, qo, rfl, _⟩ := h.cells hp
  have HN := hid h.len
  have HH := hid h
  have HK := hid (CloneQs_row w (some ⟨qb, qo, none⟩) n cap (quCells l) (by rw [quCells_length, h.len]) hn (fun ad e j u hu => by injection e with e; subst e; exact h.list j u hu) (quCells_one l) (fun e => by cases e))
  have HCS := hid hcs
  clear h hcs
  go_enter Try.func33, Try.ntmps33
  go_wp2_with fail
  refine HK.out.mono ?_
  rintro e w1 ⟨v, rfl, hO, hb⟩
  rcases hO.2 with ⟨_, e0⟩ | ⟨g, c', cur, rfl, hB, hg, hle, hm, _, _⟩
  · omega
  have hcb : c' ≤ 9223372036854775807 := by simpa [maxLen] using hm
  have hgs : g < w1.heap.size := (Array.getElem?_eq_some_iff.1 hg).1
  have hO1 : OwnQs w1 w.heap.size (.slice (some ⟨g, 0, none⟩) n c') l := by
    have hlen := HN.out
    subst hlen
    refine ⟨hO, fun i hi => (HH.out.caps i hi).later hb, fun i hi hpc b off e => ?_, HH.out.names⟩
    have := (HH.out.caps i hi).lt hpc e
    intro e2
    simp only [Value.ownBlock, Option.some.injEq] at e2
    omega
  have HO1 := hid hO1
  have HB1 := hid hb
  clear hO hb hO1 hg hm HK
  go_wp2_with fail
  go_loopw [4, 9] (fun _ st wr => ∃ (i : Nat) (l' : QL), st = .int .i64 i ∧ i ≤ n ∧ n = l'.length ∧ bareQ l' = bareQ l ∧ OwnQs wr w.heap.size (.slice (some ⟨g, 0, none⟩) n c') l' ∧ (∀ j, i ≤ j → j < n → qu l' j = qu l j) ∧ (∀ j, j < i → 0 < (qu l' j).cn → ∀ b off, (qu l' j).ca = some ⟨b, off, none⟩ → w.heap.size ≤ b) ∧ Below w.heap.size w wr ∧ g < wr.heap.size) (fun _ st _ => n - (intOf st).toNat)
  case atStart => exact ⟨0, l, rfl, by omega, HN.out, rfl, HO1.out, fun _ _ _ => rfl, fun j hj => by omega, HB1.out, hgs⟩
  case round =>
    obtain ⟨i, l', rfl, hi, hl', hbare, hO', hold, hnew, hbel, hgr⟩ := hrel
    have HL' := hid hl'
    have HBA := hid hbare
    have HO' := hid hO'
    have HOLD := hid hold
    have HNEW := hid hnew
    have HBL := hid hbel
    clear hl' hbare hO' hold hnew hbel
    by_cases hlt : i < n
    · have hlt' : (i : Int) < n := by omega
      have hlt2 : i < l'.length := by have := HL'.out; omega
      have e1 := HOLD.out i (Nat.le_refl _) hlt
      have c2 : wr.cell? ⟨g, i * 3 + 2, none⟩ = some (.slice (qu l i).ca (qu l i).cn (qu l i).cc) := by
        rw [← e1]
        have hr := HO'.out.row
        rw [← HL'.out] at hr
        rw [hr.cellAt (i * 3 + 2) (by omega), quCells_at l' i 2 hlt2 (by omega)]
        rfl
      have f2 : wr.frozen? ⟨g, i * 3 + 2, none⟩ = false := by
        have hr := HO'.out.row
        rw [← HL'.out] at hr
        exact hr.frozenAt _
      have hr1 : RunsIn wr (qu l i).ca (qu l i).cn (qu l i).cc (qu l i).runs := by rw [← e1]; exact HO'.out.caps i hlt2
      have K := CloneRuns_any wr (qu l i).ca (qu l i).cn (qu l i).cc (qu l i).runs hr1 (HCS.out i hlt)
      have HQ := hid e1
      obtain ⟨Q, hQ⟩ : ∃ Q, qu l i = Q := ⟨_, rfl⟩
      rw [hQ] at K c2 HQ
      have HKK := hid K
      have F2 := hid f2
      have C2 := hid c2
      clear K hQ e1 hr1
      go_wp2_with fail
      refine HKK.out.mono ?_
      rintro e w2 ⟨a', k', rfl, hR, hb2, hnw⟩
      have c3 := cell_later hb2 C2.out
      have f3 : w2.frozen? ⟨g, i * 3 + 2, none⟩ = false := by rw [hb2.frozen (p := ⟨g, i * 3 + 2, none⟩) hgr]; exact F2.out
      have HR := hid hR
      have HB2 := hid hb2
      have HNW := hid hnw
      clear hR hb2 hnw c2 f2
      go_wp2
      go_roundw
      case rel =>
        have hO2 := (HO'.out.later HB2.out).store HL'.out hlt2 HR.out (fun _ b off e => by have := HNW.out b off e; omega)
        refine ⟨i + 1, _, by go_num, by omega, by rw [List.length_set]; exact HL'.out, ?_, hO2, fun j h1 h2 => ?_, fun j hj => ?_, ?_, ?_⟩
        · rw [bareQ_set hlt2 (by rw [HQ.out]; rfl)]
          exact HBA.out
        · rw [qu_set _ hlt2, if_neg (by omega)]
          exact HOLD.out j (by omega) h2
        · rw [qu_set _ hlt2]
          split
          · intro _ b off e
            have := HNW.out b off e
            have := HBL.out.size
            omega
          · exact HNEW.out j (by omega)
        · exact (below_from HBL.out HB2.out).setCell (p := ⟨g, i * 3 + 2, none⟩) hB _
        · have := HB2.out.size
          simp only [World.setCell, Array.size_modify]
          omega
      case measure => simp [intOf]; omega
    · obtain rfl : i = n := by omega
      go_wp2
      go_ret
      exact ⟨g, c', l', rfl, HO'.out, HL'.out, HBA.out, HBL.out, hle, HNEW.out⟩

set_option maxHeartbeats 1000000 in
theorem Request_any (w : World) (r : Rq) (h : RqIn w r) (hn : r.pn ≤ 1000) :
    Calls Try.prog 18 #[.agg #[.int .i64 r.queue, .int .i64 r.fr, .int .i64 r.un, .int .i64 r.kind, .slice r.pa r.pn r.pc]] w fun e w' => ∃ a' c', e = .returned (.agg #[.int .i64 r.queue, .int .i64 r.fr, .int .i64 r.un, .int .i64 r.kind, .slice a' r.pn c']) ∧ RunsIn w' a' r.pn c' r.ps ∧ Below w.heap.size w w' ∧ ∀ b off, a' = some ⟨b, off, none⟩ → w.heap.size ≤ b := by
  obtain ⟨W1, hW1⟩ : ∃ W1, W1 = (w.alloc (.cells #[.int .i64 r.queue, .int .i64 r.fr, .int .i64 r.un, .int .i64 r.kind, .slice r.pa r.pn r.pc] 28)).alloc (.cells #[.int .i64 0, .int .i64 0, .int .i64 0, .int .i64 0, .slice none 0 0] 28) := ⟨_, rfl⟩
  have hb0 : Below w.heap.size w W1 := by rw [hW1]; exact ((Below.refl _ _).alloc (Nat.le_refl _) _).alloc (by simp) _
  have K := ClonePieces_any W1 r.pa r.pn r.pc r.ps (RqIn.later h hb0) hn
  have hbx : W1.heap[w.heap.size]? = some (.cells #[.int .i64 r.queue, .int .i64 r.fr, .int .i64 r.un, .int .i64 r.kind, .slice r.pa r.pn r.pc] 28 (0, 0)) := by rw [hW1]; exact (Below.heap_alloc _ _ _ (by simp)).trans (heap_alloc_new w _)
  have hrs : W1.heap[w.heap.size + 1]? = some (.cells #[.int .i64 0, .int .i64 0, .int .i64 0, .int .i64 0, .slice none 0 0] 28 (0, 0)) := by
    have := heap_alloc_new (w.alloc (.cells #[.int .i64 r.queue, .int .i64 r.fr, .int .i64 r.un, .int .i64 r.kind, .slice r.pa r.pn r.pc] 28)) (.cells #[.int .i64 0, .int .i64 0, .int .i64 0, .int .i64 0, .slice none 0 0] 28)
    rw [World.size_alloc] at this
    rw [hW1]
    exact this
  have hsz : W1.heap.size = w.heap.size + 2 := by rw [hW1]; simp
  have HK := hid K
  have HW1 := hid hW1
  have HB0 := hid hb0
  have HBX := hid hbx
  have HRS := hid hrs
  have HSZ := hid hsz
  clear K hW1 hb0 hbx hrs hsz h
  go_enter Try.func18, Try.ntmps18
  go_wp2_with fail
  rw [← HW1.out]
  refine HK.out.mono ?_
  rintro e w1 ⟨a', k', rfl, hR, hb2, hnw⟩
  obtain ⟨g, hg⟩ : ∃ g, w.heap.size = g := ⟨_, rfl⟩
  have B1 : w1.heap[g]? = some (.cells #[.int .i64 r.queue, .int .i64 r.fr, .int .i64 r.un, .int .i64 r.kind, .slice r.pa r.pn r.pc] 28 (0, 0)) := by rw [← hg, hb2.block _ (by have := HSZ.out; omega)]; exact HBX.out
  have B2 : w1.heap[g + 1]? = some (.cells #[.int .i64 0, .int .i64 0, .int .i64 0, .int .i64 0, .slice none 0 0] 28 (0, 0)) := by rw [← hg, hb2.block _ (by have := HSZ.out; omega)]; exact HRS.out
  have hlt1 : g + 1 < w1.heap.size := by have := hb2.size; have := HSZ.out; omega
  have c4 : w1.cell? ⟨g, 4, none⟩ = some (.slice r.pa r.pn r.pc) := by rw [cell_of_row w1 g 4 _ _ _ B1]; rfl
  have f4 : w1.frozen? ⟨g, 4, none⟩ = false := frozen_of_row w1 g 4 _ _ B1
  have d0 : w1.cell? ⟨g, 0, none⟩ = some (.int .i64 r.queue) := by rw [cell_of_row w1 g 0 _ _ _ B1]; rfl
  have d1 : w1.cell? ⟨g, 1, none⟩ = some (.int .i64 r.fr) := by rw [cell_of_row w1 g 1 _ _ _ B1]; rfl
  have d2 : w1.cell? ⟨g, 2, none⟩ = some (.int .i64 r.un) := by rw [cell_of_row w1 g 2 _ _ _ B1]; rfl
  have d3 : w1.cell? ⟨g, 3, none⟩ = some (.int .i64 r.kind) := by rw [cell_of_row w1 g 3 _ _ _ B1]; rfl
  have e0 : w1.cell? ⟨g + 1, 0, none⟩ = some (.int .i64 0) := by rw [cell_of_row w1 (g + 1) 0 _ _ _ B2]; rfl
  have e1 : w1.cell? ⟨g + 1, 1, none⟩ = some (.int .i64 0) := by rw [cell_of_row w1 (g + 1) 1 _ _ _ B2]; rfl
  have e2 : w1.cell? ⟨g + 1, 2, none⟩ = some (.int .i64 0) := by rw [cell_of_row w1 (g + 1) 2 _ _ _ B2]; rfl
  have e3 : w1.cell? ⟨g + 1, 3, none⟩ = some (.int .i64 0) := by rw [cell_of_row w1 (g + 1) 3 _ _ _ B2]; rfl
  have e4 : w1.cell? ⟨g + 1, 4, none⟩ = some (.slice none 0 0) := by rw [cell_of_row w1 (g + 1) 4 _ _ _ B2]; rfl
  have f5 : ∀ k, w1.frozen? ⟨g + 1, k, none⟩ = false := fun k => frozen_of_row w1 (g + 1) k _ _ B2
  have HR := hid hR
  have HB2 := hid hb2
  have HNW := hid hnw
  have HG := hid hg
  have HX2 := hid B2
  rw [hg]
  clear hR hb2 hnw hg B1 B2
  go_wp2_with fail
  have X2 := HX2.out
  have hres := five_stores (w1.setCell ⟨g, 4, none⟩ (.slice a' r.pn k')) (g + 1) 28 _ _ _ _ _ (.int .i64 r.queue) (.int .i64 r.fr) (.int .i64 r.un) (.int .i64 r.kind) (.slice a' r.pn k') ((heap_setCell_other w1 ⟨g, 4, none⟩ (g + 1) _ (by simp)).trans X2)
  refine bodyPost_ret (v := .agg #[.int .i64 r.queue, .int .i64 r.fr, .int .i64 r.un, .int .i64 r.kind, .slice a' r.pn k']) (results_cell_row Try.results18 _ _ (g + 1) 28 #[.int .i64 r.queue, .int .i64 r.fr, .int .i64 r.un, .int .i64 r.kind, .slice a' r.pn k'] (0, 0) _ rfl hres.1 Try.underlying28 rfl (by kernel_rfl)) rfl ⟨a', k', rfl, ?_, ?_, ?_⟩
  · refine HR.out.of_away fun hp b off e => ?_
    have h1 := HNW.out b off e
    have h2 := HSZ.out
    have h3 := HG.out
    rw [hres.2 b (by omega), heap_setCell_other w1 ⟨g, 4, none⟩ b _ (by simp; omega)]
  · have h3 : w.heap.size ≤ g := by have := HG.out; omega
    have h4 : w.heap.size ≤ g + 1 := by omega
    exact ((((((below_from HB0.out HB2.out).setCell (p := ⟨g, 4, none⟩) h3 _).setCell (p := ⟨g + 1, 0, none⟩) h4 _).setCell (p := ⟨g + 1, 1, none⟩) h4 _).setCell (p := ⟨g + 1, 2, none⟩) h4 _).setCell (p := ⟨g + 1, 3, none⟩) h4 _).setCell (p := ⟨g + 1, 4, none⟩) h4 _
  · intro b off e
    have h1 := HNW.out b off e
    have h2 := HSZ.out
    omega
end Go.Proofs.Ytcgchicdmgllaaf
