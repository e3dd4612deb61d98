/- Books as rows of cells. -/
import Derived.Test.YtcgchicdmgllaafLoadAll
import Derived.Test.YtcgchicdmgllaafFrameB
namespace Go.Proofs.Ytcgchicdmgllaaf
open Go.RowKit

def bkCell (x : Bk) : List Value := [.int .i64 x.id, .int .i64 x.rq.queue, .int .i64 x.rq.fr, .int .i64 x.rq.un, .int .i64 x.rq.kind, .slice x.rq.pa x.rq.pn x.rq.pc, .slice x.ba x.bn x.bc]
def bkCells : BL → List Value
  | [] => []
  | x :: l => bkCell x ++ bkCells l
theorem bkCells_length : ∀ l : BL, (bkCells l).length = l.length * 7
  | [] => rfl
  | x :: l => by simp only [bkCells, List.length_append, bkCells_length l, List.length_cons, bkCell]; simp; omega
theorem bkCells_app : ∀ a b : BL, bkCells (a ++ b) = bkCells a ++ bkCells b
  | [], b => rfl
  | x :: a, b => by rw [List.cons_append, bkCells, bkCells_app a b, bkCells, List.append_assoc]
theorem bkCells_one : ∀ (l : BL), ∀ u ∈ bkCells l, u.oneCell' = true
  | [], u, h => by simp [bkCells] at h
  | x :: l, u, h => by
    rcases List.mem_append.1 h with h | h
    · simp only [bkCell, List.mem_cons, List.not_mem_nil, or_false] at h
      rcases h with rfl | rfl | rfl | rfl | rfl | rfl | rfl <;> rfl
    · exact bkCells_one l u h
theorem bkCells_at : ∀ (l : BL) (i k : Nat), i < l.length → k < 7 → (bkCells l)[i * 7 + k]? = (bkCell (bk l i))[k]?
  | [], i, k, h, _ => by simp at h
  | x :: l, 0, k, _, hk => by
    rw [bkCells, List.getElem?_append_left (by simp [bkCell]; omega), Nat.zero_mul, Nat.zero_add]
    rfl
  | x :: l, i + 1, k, h, hk => by
    have := bkCells_at l i k (by simpa using h) hk
    rw [bkCells, List.getElem?_append_right (by simp [bkCell]; omega), show (i + 1) * 7 + k - (bkCell x).length = i * 7 + k from by simp [bkCell]; omega, this]
    rfl
theorem BksIn.list {w : World} {bb bo n cap : Nat} {l : BL} (h : BksIn w (some ⟨bb, bo, none⟩) n cap l) : ∀ j u, (bkCells l)[j]? = some u → w.cell? ⟨bb, bo + j, none⟩ = some u := by
  intro j u hu
  have hj : j < l.length * 7 := by
    have := (List.getElem?_eq_some_iff.1 hu).1
    rwa [bkCells_length] at this
  have hi : j / 7 < l.length := by omega
  have hk : j % 7 < 7 := by omega
  have hn := h.len
  obtain ⟨b', o', e, hc⟩ := h.cells (by omega)
  injection e with e
  injection e with e1 e2
  subst e1
  subst e2
  obtain ⟨c0, c1, c2, c3, c4, c5, c6⟩ := hc (j / 7) (by omega)
  have ej : j = j / 7 * 7 + j % 7 := by omega
  rw [ej, bkCells_at l _ _ hi hk] at hu
  rw [ej]
  obtain ⟨m, hm⟩ : ∃ m, j % 7 = m := ⟨_, rfl⟩
  rw [hm] at hu hk ⊢
  rw [← Nat.add_assoc]
  match m, hk with
  | 0, _ => simp [bkCell] at hu; rw [← hu]; exact c0
  | 1, _ => simp [bkCell] at hu; rw [← hu]; exact c1
  | 2, _ => simp [bkCell] at hu; rw [← hu]; exact c2
  | 3, _ => simp [bkCell] at hu; rw [← hu]; exact c3
  | 4, _ => simp [bkCell] at hu; rw [← hu]; exact c4
  | 5, _ => simp [bkCell] at hu; rw [← hu]; exact c5
  | 6, _ => simp [bkCell] at hu; rw [← hu]; exact c6
  | m + 7, hk => omega
theorem ownsRow_later {w w' : World} {B t s n : Nat} {v : Value} {xs : List Value} (h : w.ownsRow B t s v n xs) (hb : Below w.heap.size w w') : w'.ownsRow B t s v n xs := by
  refine ⟨h.1, ?_⟩
  rcases h.2 with hn | ⟨g, cap, cur, rfl, hB, hg, rest⟩
  · exact .inl hn
  · refine .inr ⟨g, cap, cur, rfl, hB, ?_, rest⟩
    rw [hb.block g (Array.getElem?_eq_some_iff.1 hg).1]
    exact hg
theorem own_bks {w : World} {B : Nat} {v : Value} {l : BL} (h : w.ownsRow B 43 7 v l.length (bkCells l)) (hq : ∀ x ∈ l, RqIn w x.rq) (hb : ∀ x ∈ l, RunsIn w x.ba x.bn x.bc x.bs) :
    ∃ a cap, v = .slice a l.length cap ∧ BksIn w a l.length cap l ∧ ∀ b off, a = some ⟨b, off, none⟩ → B ≤ b ∧ off = 0 := by
  rcases h.2 with ⟨rfl, hn⟩ | ⟨g, cap, cur, rfl, hB, hg, hle, hm, hs, ht⟩
  · refine ⟨none, 0, by rw [hn], ⟨rfl, by omega, by omega, fun hp => by omega, fun i hi => by omega, fun i hi => by omega⟩, fun b off e => by cases e⟩
  · refine ⟨some ⟨g, 0, none⟩, cap, rfl, ⟨rfl, hle, by simpa [maxLen] using hm, fun hp => ⟨g, 0, rfl, fun i hi => ?_⟩, fun i hi => hq _ (bk_mem hi), fun i hi => hb _ (bk_mem hi)⟩, fun b off e => by
      injection e with e
      injection e with e1 e2
      exact ⟨by omega, e2.symm⟩⟩
    have key : ∀ k u, k < 7 → (bkCell (bk l i))[k]? = some u → w.cell? ⟨g, 0 + i * 7 + k, none⟩ = some u := by
      intro k u hk hu
      rw [← bkCells_at l i k hi hk, ← ht, List.getElem?_take] at hu
      rw [Nat.zero_add]
      split at hu
      · rw [cell_of_row w g (i * 7 + k) cur _ (0, 0) hg]
        simpa using hu
      · cases hu
    exact ⟨key 0 _ (by omega) rfl, key 1 _ (by omega) rfl, key 2 _ (by omega) rfl, key 3 _ (by omega) rfl, key 4 _ (by omega) rfl, key 5 _ (by omega) rfl, key 6 _ (by omega) rfl⟩
theorem infoBook : (Try.prog.info? 43).map (fun i => (i.zero, i.size, i.bytes)) = some (some (.agg #[.int .i64 0, .int .i64 0, .int .i64 0, .int .i64 0, .int .i64 0, .slice none 0 0, .slice none 0 0]), 7, 88) := by kernel_rfl
/-- books behind books of the call's own -/
theorem append_bks (w : World) (B : Nat) (v : Value) (n : Nat) (l : BL) (hn : n = l.length) (hown : w.ownsRow B 43 7 v n (bkCells l)) (a : Addr) (m c : Nat) (l2 : BL) (hm : m = l2.length) (hc : ∀ j u, (bkCells l2)[j]? = some u → w.cell? (a.add j) = some u)
    (h12 : n + m ≤ 1000) (hB : B ≤ w.heap.size) (ty : TypeId) : ∃ v' w', (Builtin.append_ #[23, 23] ty #[v, .slice (some a) m c]).run Try.prog w = .ok v' w' ∧ w'.ownsRow B 43 7 v' (n + m) (bkCells (l ++ l2)) ∧ w.grownBy w' v.ownBlock := by
  obtain ⟨i0, hi, e⟩ := Option.map_eq_some_iff.1 infoBook
  simp only [Prod.mk.injEq] at e
  obtain ⟨e1, e2, e3⟩ := e
  obtain ⟨v', w', h1, h2, h3, _⟩ := run_append_own w B 23 ty 43 i0 _ 7 88 Try.underlying23 hi e1 e2 e3 (by rfl) (by omega) v n (bkCells l) hown a m c (bkCells l2) (by rw [bkCells_length, hm]) hc (bkCells_one l2) (by simp only [maxLen]; omega) (by omega) hB
  exact ⟨v', w', h1, by rw [bkCells_app]; exact h2, h3⟩
theorem exec_append {P : Program} {o : Oper} {ev : Operand → Value} {w w' : World} {v' : Value} (s x : Operand) (t : TypeId) (ho : o.op = .call { callee := .builtin .append, args := #[s, x], argTypes := #[t, t] }) (v y : Value) (hs : ev s = v) (hx : ev x = y)
    (hr : (Builtin.append_ #[t, t] o.type #[v, y]).run P w = .ok v' w') : (execOp ev o).run P w = .ok (.value v') w' := by
  unfold execOp
  simp only [ho, resolve, invoke, builtin, Sem.run_bind, Sem.run_pure, Result.andThen_ok, List.map_toArray, List.map_cons, List.map_nil, hs, hx, hr]
end Go.Proofs.Ytcgchicdmgllaaf
