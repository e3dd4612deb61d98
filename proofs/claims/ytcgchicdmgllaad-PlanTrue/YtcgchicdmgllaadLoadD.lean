/- What is taken, in memory: a row of runs, one for each queue. -/
import Derived.Test.YtcgchicdmgllaadLoadB
import Derived.Test.YtcgchicdmgllaadLoadC
import Derived.Test.YtcgchicdmgllaadLoadH
import Derived.Test.YtcgchicdmgllaadTreeI
import Derived.Test.YtcgchicdmgllaadAnyI
namespace Go.Proofs.Ytcgchicdmgllaad
open Go.RowKit Go.Shelf

theorem RunsIn.grown {X Y : World} {row : Option Nat} {a : Option Addr} {n cap : Nat} {l : RunL} (h : RunsIn X a n cap l) (hg : X.grownBy Y row) (hr : ∀ r, row = some r → ∃ o : Obj, X.heap[r]? = some o ∧ o.isCells = false) : RunsIn Y a n cap l := by
  refine ⟨h.len, h.le, h.bound, h.capb, fun hp => ?_⟩
  obtain ⟨b, off, ha, hc⟩ := h.cells hp
  have hlt : b < X.heap.size := block_lt_of_cell (hc 0 hp).1
  have hne : some b ≠ row := by
    intro e
    obtain ⟨o, h1, h2⟩ := hr b e.symm
    have h3 := (hc 0 hp).1
    simp only [World.cell?, h1] at h3
    cases o with
    | cells => cases h2
    | _ => simp at h3
  have e := hg.block b hlt hne
  exact ⟨b, off, ha, fun i hi => ⟨(World.cell?_of_block (w := X) (a := ⟨b, off + i * 2, none⟩) e).trans (hc i hi).1, (World.cell?_of_block (w := X) (a := ⟨b, off + i * 2 + 1, none⟩) e).trans (hc i hi).2⟩⟩
theorem RunsIn.blocks {w w' : World} {a : Option Addr} {n cap : Nat} {l : RunL} (h : RunsIn w a n cap l) (hb : ∀ b off, a = some ⟨b, off, none⟩ → w'.heap[b]? = w.heap[b]?) : RunsIn w' a n cap l := by
  refine ⟨h.len, h.le, h.bound, h.capb, fun hp => ?_⟩
  obtain ⟨b, off, ha, hc⟩ := h.cells hp
  have e := hb b off ha
  exact ⟨b, off, ha, fun i hi => ⟨(World.cell?_of_block (w := w) (a := ⟨b, off + i * 2, none⟩) e).trans (hc i hi).1, (World.cell?_of_block (w := w) (a := ⟨b, off + i * 2 + 1, none⟩) e).trans (hc i hi).2⟩⟩

/-- W is W1, but that the row in block G now holds what is taken: T -/
structure Tk (W1 W : World) (G n : Nat) (T : Nat → RunL) : Prop where
  os : W.os = W1.os
  tape : W.tape = W1.tape
  output : W.output = W1.output
  size : W1.heap.size ≤ W.heap.size
  block : ∀ k, k < W1.heap.size → k ≠ G → W.heap[k]? = W1.heap[k]?
  row : ∃ v, W.rowIs G 29 n v ∧ ∀ q, q < n → ∃ a m c, v q = .slice a m c ∧ RunsIn W a m c (T q) ∧ ∀ b off, a = some ⟨b, off, none⟩ → b ≠ G
theorem Tk.own {β : Type} {W1 : World} {G n B : Nat} {T : β → Nat → RunL} (hB : W1.heap.size ≤ B) (hG : G < W1.heap.size) : OwnFrom B (fun (s : β) W => Tk W1 W G n (T s)) := by
  intro s X Y row hs hg hr
  obtain ⟨v, hv, hq⟩ := hs.row
  refine ⟨hg.os.trans hs.os, hg.tape.trans hs.tape, hg.output.trans hs.output, Nat.le_trans hs.size hg.size,
    fun k hk hne => (hg.block k (Nat.lt_of_lt_of_le hk hs.size) (fun e => by have := (hr k e.symm).1; omega)).trans (hs.block k hk hne), v,
    hv.of_block (hg.block G hv.lt (fun e => by have := (hr G e.symm).1; omega)), fun q hqn => ?_⟩
  obtain ⟨a, m, c, h1, h2, h3⟩ := hq q hqn
  exact ⟨a, m, c, h1, h2.grown hg (fun r e => (hr r e).2), h3⟩
theorem Tk.box {W1 W : World} {G n : Nat} {T : Nat → RunL} (h : Tk W1 W G n T) {B t : Nat} {v : Value} (hb : Boxed W1 B t v) (hne : B ≠ G) : Boxed W B t v := (h.block B hb.lt hne).trans hb
theorem Tk.later {W1 W W' : World} {G n : Nat} {T : Nat → RunL} (h : Tk W1 W G n T) (hb : Below W.heap.size W W') : Tk W1 W' G n T := by
  obtain ⟨v, hv, hq⟩ := h.row
  refine ⟨hb.os.trans h.os, hb.tape.trans h.tape, hb.output.trans h.output, Nat.le_trans h.size hb.size, fun k hk hne => (hb.block k (by have := h.size; omega)).trans (h.block k hk hne), v, hv.of_block (hb.block G hv.lt), fun q hqn => ?_⟩
  obtain ⟨a, m, c, h1, h2, h3⟩ := hq q hqn
  exact ⟨a, m, c, h1, h2.later hb, h3⟩
theorem Tk.hit {W1 W : World} {G n : Nat} {T : Nat → RunL} (h : Tk W1 W G n T) (j : Nat) {a : Option Addr} {m c : Nat} {g : RunL} (hR : RunsIn W a m c g) (hne : ∀ b off, a = some ⟨b, off, none⟩ → b ≠ G) :
    Tk W1 (W.setCell ⟨G, j, none⟩ (.slice a m c)) G n (fun q => if q = j then g else T q) := by
  obtain ⟨v, hv, hq⟩ := h.row
  refine ⟨h.os, h.tape, h.output, by rw [show (W.setCell ⟨G, j, none⟩ (.slice a m c)).heap.size = W.heap.size by simp [World.setCell]]; exact h.size,
    fun k hk hn => (Below.heap_setCell _ _ _ k hn).trans (h.block k hk hn), _, hv.set j _, fun q hqn => ?_⟩
  by_cases e : q = j
  · subst e
    refine ⟨a, m, c, if_pos rfl, ?_, hne⟩
    rw [if_pos rfl]
    exact hR.blocks fun b off e => Below.heap_setCell _ _ _ b (by simpa using hne b off e)
  · obtain ⟨a', m', c', h1, h2, h3⟩ := hq q hqn
    refine ⟨a', m', c', by rw [if_neg e]; exact h1, ?_, h3⟩
    rw [if_neg e]
    exact h2.blocks fun b off e => Below.heap_setCell _ _ _ b (by simpa using h3 b off e)
theorem Tk.congr {W1 W : World} {G n : Nat} {T T' : Nat → RunL} (h : Tk W1 W G n T) (e : ∀ q, q < n → T q = T' q) : Tk W1 W G n T' := by
  obtain ⟨v, hv, hq⟩ := h.row
  refine ⟨h.os, h.tape, h.output, h.size, h.block, v, hv, fun q hqn => ?_⟩
  rw [← e q hqn]
  exact hq q hqn
theorem Tk.below {W1 W : World} {G n B : Nat} {T : Nat → RunL} (h : Tk W1 W G n T) (hB : B ≤ G) (hs : G < W1.heap.size) : Below B W1 W :=
  ⟨h.os, h.tape, h.output, h.size, fun k hk => h.block k (by omega) (by omega)⟩
theorem Tk.at {W1 W : World} {G n : Nat} {T : Nat → RunL} (h : Tk W1 W G n T) {q : Nat} (hq : q < n) : ∃ a m c, W.cell? ⟨G, q, none⟩ = some (.slice a m c) ∧ W.frozen? ⟨G, q, none⟩ = false ∧ RunsIn W a m c (T q) ∧ ∀ b off, a = some ⟨b, off, none⟩ → b ≠ G := by
  obtain ⟨v, hv, hqq⟩ := h.row
  obtain ⟨a, m, c, h1, h2, h3⟩ := hqq q hq
  exact ⟨a, m, c, by rw [← h1]; exact hv.cell hq, hv.frozen q, h2, h3⟩
theorem Tk.from {W1 W2 W : World} {G n : Nat} {T : Nat → RunL} (h : Tk W2 W G n T) (hb : ∀ k, k < W1.heap.size → k ≠ G → W2.heap[k]? = W1.heap[k]?) (h1 : W2.os = W1.os) (h2 : W2.tape = W1.tape) (h3 : W2.output = W1.output) (h4 : W1.heap.size ≤ W2.heap.size) : Tk W1 W G n T :=
  ⟨h.os.trans h1, h.tape.trans h2, h.output.trans h3, Nat.le_trans h4 h.size, fun k hk hn => (h.block k (by omega) hn).trans (hb k hk hn), h.row⟩

/-- what is taken, once a book is taken beside it at each of these queues -/
def addAll (x : Bk) (T : Nat → RunL) : List Int → Nat → RunL
  | [] => T
  | p :: ps => addAll x (fun q => if q = p.toNat then withTo (T p.toNat) x x.bs.length else T q) ps
theorem addAll_more (x : Bk) : ∀ (ps : List Int) (T : Nat → RunL) (p : Int), addAll x T (ps ++ [p]) = fun q => if q = p.toNat then withTo (addAll x T ps p.toNat) x x.bs.length else addAll x T ps q
  | [], T, p => rfl
  | y :: ps, T, p => by rw [List.cons_append, addAll, addAll_more x ps _ p]; rfl
/-- D1: what the first j books take -/
def takenTo (l : QL) (b : BL) : Nat → Nat → RunL
  | 0 => fun _ => [(0, 0)]
  | j + 1 => addAll (bk b j) (takenTo l b j) (lineOf l (bk b j).rq.queue)
theorem Try.info47 : (Try.prog.info? 29).map (fun i => (i.zero, i.size, i.bytes)) = some (some (.slice none 0 0), 1, 24) := by kernel_rfl
/-- no book has an error -/
theorem no_error {l : QL} {b : BL} (h : chkL l b = 0) : chkT l = 0 ∧ b.length ≤ 12 ∧ ∀ i, i < b.length → chkB l (bk b i) = 0 := by
  unfold chkL at h
  by_cases h1 : chkT l = 0
  · rw [if_pos h1] at h
    by_cases h2 : b.length ≤ 12
    · rw [if_pos h2] at h
      refine ⟨h1, h2, fun i hi => ?_⟩
      have h' : (if noB l b 7 = true then (if noB l b 2 = true then (if noB l b 6 = true then (if noB l b 3 = true then (if noB l b 1 = true then (0 : Int) else 1) else 3) else 6) else 2) else 7) = 0 := h
      have e0 : noB l b 7 = true := by cases e : noB l b 7 <;> simp [e] at h' ⊢
      rw [if_pos e0] at h'
      have e1 : noB l b 2 = true := by cases e : noB l b 2 <;> simp [e] at h' ⊢
      rw [if_pos e1] at h'
      have e2 : noB l b 6 = true := by cases e : noB l b 6 <;> simp [e] at h' ⊢
      rw [if_pos e2] at h'
      have e3 : noB l b 3 = true := by cases e : noB l b 3 <;> simp [e] at h' ⊢
      rw [if_pos e3] at h'
      have e4 : noB l b 1 = true := by cases e : noB l b 1 <;> simp [e] at h' ⊢
      have hne : ∀ k, noB l b k = true → chkB l (bk b i) ≠ k := fun k hk => by
        have := allN_iff.1 hk i hi
        simpa using this
      have h7 := hne 7 e0
      have h22 := hne 2 e1
      have h6 := hne 6 e2
      have h3 := hne 3 e3
      have h11 := hne 1 e4
      revert h7 h22 h6 h3 h11
      unfold chkB chkQR chkR
      rw [if_pos h1]
      repeat' split
      all_goals simp
    · rw [if_neg h2] at h; simp at h
  · rw [if_neg h1] at h; exact absurd h h1
theorem no_error_at {l : QL} {x : Bk} (ht : chkT l = 0) (h : chkB l x = 0) : meets x.rq x.bs = true ∧ 0 ≤ x.rq.queue ∧ x.rq.queue < l.length := by
  unfold chkB at h
  by_cases h1 : chkQR l x.rq = 0
  · rw [if_pos h1] at h
    refine ⟨?_, ?_⟩
    · by_cases h2 : meets x.rq x.bs = true
      · exact h2
      · rw [if_neg h2] at h; simp at h
    · unfold chkQR at h1
      rw [if_pos ht] at h1
      unfold chkR at h1
      cases hm : missing l.length x.rq.queue with
      | true =>
        rw [hm, if_pos rfl] at h1
        revert h1
        repeat' split
        all_goals simp
      | false =>
        simp [missing, wth] at hm
        omega
  · rw [if_neg h1] at h; exact absurd h h1
end Go.Proofs.Ytcgchicdmgllaad
