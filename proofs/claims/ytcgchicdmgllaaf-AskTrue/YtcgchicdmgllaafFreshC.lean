/- Contract of fresh.State: the same state, in memory of the call's own. -/
import Derived.Test.YtcgchicdmgllaafFreshB
import Derived.Test.YtcgchicdmgllaafPlanA
import Derived.Test.YtcgchicdmgllaafAnyC
import Derived.Deep.DeepCutAuto
namespace Go.Proofs.Ytcgchicdmgllaaf
open Go.RowKit

theorem bk_set {b : BL} {j : Nat} (x : Bk) (hj : j < b.length) (i : Nat) : bk (b.set j x) i = if i = j then x else bk b i := by
  unfold bk
  rw [List.getD_eq_getElem?_getD, List.getD_eq_getElem?_getD, List.getElem?_set]
  by_cases e : j = i
  · subst e; simp [hj]
  · rw [if_neg e, if_neg (Ne.symm e)]
theorem bareB_set {b : BL} {j : Nat} {x : Bk} (hj : j < b.length) (hx : x.bare = (bk b j).bare) : bareB (b.set j x) = bareB b := by
  apply List.ext_getElem?
  intro i
  unfold bareB
  rw [List.getElem?_map, List.getElem?_map, List.getElem?_set]
  by_cases e : j = i
  · subst e
    rw [if_pos rfl, if_pos hj]
    have e2 : b[j]? = some (bk b j) := by rw [List.getElem?_eq_getElem hj, bk_get hj]
    rw [e2]
    simp [hx]
  · rw [if_neg e]
theorem bkCells_setReq : ∀ (b : BL) (j : Nat) (q fr un kd : Int) (a : Option Addr) (n c : Nat) (rs : RunL), j < b.length →
    bkCells (b.set j ⟨(bk b j).id, ⟨q, fr, un, kd, a, n, c, rs⟩, (bk b j).ba, (bk b j).bn, (bk b j).bc, (bk b j).bs⟩) = (((((bkCells b).set (j * 7 + 1) (.int .i64 q)).set (j * 7 + 2) (.int .i64 fr)).set (j * 7 + 3) (.int .i64 un)).set (j * 7 + 4) (.int .i64 kd)).set (j * 7 + 5) (.slice a n c)
  | [], j, q, fr, un, kd, a, n, c, rs, h => by simp at h
  | x :: b, 0, q, fr, un, kd, a, n, c, rs, _ => rfl
  | x :: b, j + 1, q, fr, un, kd, a, n, c, rs, h => by
    have ih := bkCells_setReq b j q fr un kd a n c rs (by simpa using h)
    rw [List.set_cons_succ, bkCells, bkCells, show (j + 1) * 7 + 1 = j * 7 + 1 + 1 + 1 + 1 + 1 + 1 + 1 + 1 from by omega, show (j + 1) * 7 + 2 = j * 7 + 2 + 1 + 1 + 1 + 1 + 1 + 1 + 1 from by omega, show (j + 1) * 7 + 3 = j * 7 + 3 + 1 + 1 + 1 + 1 + 1 + 1 + 1 from by omega, show (j + 1) * 7 + 4 = j * 7 + 4 + 1 + 1 + 1 + 1 + 1 + 1 + 1 from by omega, show (j + 1) * 7 + 5 = j * 7 + 5 + 1 + 1 + 1 + 1 + 1 + 1 + 1 from by omega]
    show bkCell x ++ bkCells (b.set j ⟨(bk b j).id, ⟨q, fr, un, kd, a, n, c, rs⟩, (bk b j).ba, (bk b j).bn, (bk b j).bc, (bk b j).bs⟩) = _
    rw [ih]
    rfl
theorem bkCells_setBites : ∀ (b : BL) (j : Nat) (a : Option Addr) (n c : Nat) (rs : RunL), j < b.length → bkCells (b.set j ⟨(bk b j).id, (bk b j).rq, a, n, c, rs⟩) = (bkCells b).set (j * 7 + 6) (.slice a n c)
  | [], j, a, n, c, rs, h => by simp at h
  | x :: b, 0, a, n, c, rs, _ => rfl
  | x :: b, j + 1, a, n, c, rs, h => by
    have ih := bkCells_setBites b j a n c rs (by simpa using h)
    rw [List.set_cons_succ, bkCells, bkCells, show (j + 1) * 7 + 6 = j * 7 + 6 + 1 + 1 + 1 + 1 + 1 + 1 + 1 from by omega]
    show bkCell x ++ bkCells (b.set j ⟨(bk b j).id, (bk b j).rq, a, n, c, rs⟩) = _
    rw [ih]
    rfl

/-- books that the call made -/
structure OwnBks (w : World) (B : Nat) (v : Value) (b : BL) : Prop where
  row : w.ownsRow B 43 7 v b.length (bkCells b)
  rqs : ∀ i, i < b.length → RqIn w (bk b i).rq
  bites : ∀ i, i < b.length → RunsIn w (bk b i).ba (bk b i).bn (bk b i).bc (bk b i).bs
  farP : ∀ i, i < b.length → 0 < (bk b i).rq.pn → ∀ g off, (bk b i).rq.pa = some ⟨g, off, none⟩ → v.ownBlock ≠ some g
  farB : ∀ i, i < b.length → 0 < (bk b i).bn → ∀ g off, (bk b i).ba = some ⟨g, off, none⟩ → v.ownBlock ≠ some g
theorem OwnBks.later {w w' : World} {B : Nat} {v : Value} {b : BL} (h : OwnBks w B v b) (hb : Below w.heap.size w w') : OwnBks w' B v b :=
  ⟨ownsRow_later h.row hb, fun i hi => (h.rqs i hi).later hb, fun i hi => (h.bites i hi).later hb, h.farP, h.farB⟩
theorem OwnBks.bks {w : World} {B : Nat} {v : Value} {b : BL} (h : OwnBks w B v b) : ∃ a cap, v = .slice a b.length cap ∧ BksIn w a b.length cap b ∧ ∀ g off, a = some ⟨g, off, none⟩ → B ≤ g ∧ off = 0 :=
  own_bks h.row (fun x hx => by obtain ⟨i, hi, rfl⟩ := mem_bk hx; exact h.rqs i hi) (fun x hx => by obtain ⟨i, hi, rfl⟩ := mem_bk hx; exact h.bites i hi)
theorem own_ne {g n c b : Nat} : (Value.slice (some ⟨g, 0, none⟩) n c).ownBlock ≠ some b ↔ g ≠ b := by simp [Value.ownBlock]
theorem RunsIn.set5 {w : World} {a : Option Addr} {n cap : Nat} {l : RunL} (h : RunsIn w a n cap l) {g o1 o2 o3 o4 o5 : Nat} (u1 u2 u3 u4 u5 : Value) (hb : 0 < n → ∀ b off, a = some ⟨b, off, none⟩ → b ≠ g) :
    RunsIn (((((w.setCell ⟨g, o1, none⟩ u1).setCell ⟨g, o2, none⟩ u2).setCell ⟨g, o3, none⟩ u3).setCell ⟨g, o4, none⟩ u4).setCell ⟨g, o5, none⟩ u5) a n cap l :=
  ((((h.set_away _ _ hb).set_away _ _ hb).set_away _ _ hb).set_away _ _ hb).set_away _ _ hb
/-- one book's request is changed -/
theorem OwnBks.storeReq {w : World} {B g n c : Nat} {b : BL} (h : OwnBks w B (.slice (some ⟨g, 0, none⟩) n c) b) (hn : n = b.length) {j : Nat} (hj : j < b.length) {q fr un kd : Int} {a : Option Addr} {m k : Nat} {rs : RunL} (hr : RunsIn w a m k rs) (hf : 0 < m → ∀ b' off, a = some ⟨b', off, none⟩ → b' ≠ g) :
    OwnBks (((((w.setCell ⟨g, j * 7 + 1, none⟩ (.int .i64 q)).setCell ⟨g, j * 7 + 2, none⟩ (.int .i64 fr)).setCell ⟨g, j * 7 + 3, none⟩ (.int .i64 un)).setCell ⟨g, j * 7 + 4, none⟩ (.int .i64 kd)).setCell ⟨g, j * 7 + 5, none⟩ (.slice a m k)) B (.slice (some ⟨g, 0, none⟩) n c)
      (b.set j ⟨(bk b j).id, ⟨q, fr, un, kd, a, m, k, rs⟩, (bk b j).ba, (bk b j).bn, (bk b j).bc, (bk b j).bs⟩) := by
  subst hn
  have hl : (b.set j ⟨(bk b j).id, ⟨q, fr, un, kd, a, m, k, rs⟩, (bk b j).ba, (bk b j).bn, (bk b j).bc, (bk b j).bs⟩).length = b.length := List.length_set
  refine ⟨?_, fun i hi => ?_, fun i hi => ?_, fun i hi => ?_, fun i hi => ?_⟩
  · rw [hl, bkCells_setReq b j q fr un kd a m k rs hj]
    exact (((((h.row.stored _ _).1.stored _ _).1.stored _ _).1.stored _ _).1.stored _ _).1
  all_goals rw [hl] at hi
  · rw [bk_set _ hj]
    split
    · exact RunsIn.set5 hr _ _ _ _ _ hf
    · exact RunsIn.set5 (h.rqs i hi) _ _ _ _ _ fun hp b' off e => Ne.symm (own_ne.1 (h.farP i hi hp b' off e))
  · rw [bk_set _ hj]
    split
    · exact RunsIn.set5 (h.bites j hj) _ _ _ _ _ fun hp b' off e => Ne.symm (own_ne.1 (h.farB j hj hp b' off e))
    · exact RunsIn.set5 (h.bites i hi) _ _ _ _ _ fun hp b' off e => Ne.symm (own_ne.1 (h.farB i hi hp b' off e))
  · rw [bk_set _ hj]
    split
    · exact fun hp b' off e => own_ne.2 (Ne.symm (hf hp b' off e))
    · exact h.farP i hi
  · rw [bk_set _ hj]
    split
    · exact h.farB j hj
    · exact h.farB i hi
/-- one book's bites are changed -/
theorem OwnBks.storeBites {w : World} {B g n c : Nat} {b : BL} (h : OwnBks w B (.slice (some ⟨g, 0, none⟩) n c) b) (hn : n = b.length) {j : Nat} (hj : j < b.length) {a : Option Addr} {m k : Nat} {rs : RunL} (hr : RunsIn w a m k rs) (hf : 0 < m → ∀ b' off, a = some ⟨b', off, none⟩ → b' ≠ g) :
    OwnBks (w.setCell ⟨g, j * 7 + 6, none⟩ (.slice a m k)) B (.slice (some ⟨g, 0, none⟩) n c) (b.set j ⟨(bk b j).id, (bk b j).rq, a, m, k, rs⟩) := by
  subst hn
  have hl : (b.set j ⟨(bk b j).id, (bk b j).rq, a, m, k, rs⟩).length = b.length := List.length_set
  refine ⟨?_, fun i hi => ?_, fun i hi => ?_, fun i hi => ?_, fun i hi => ?_⟩
  · rw [hl, bkCells_setBites b j a m k rs hj]
    exact (h.row.stored _ _).1
  all_goals rw [hl] at hi
  · rw [bk_set _ hj]
    split
    · exact RunsIn.set_away (h.rqs j hj) _ _ fun hp b' off e => Ne.symm (own_ne.1 (h.farP j hj hp b' off e))
    · exact RunsIn.set_away (h.rqs i hi) _ _ fun hp b' off e => Ne.symm (own_ne.1 (h.farP i hi hp b' off e))
  · rw [bk_set _ hj]
    split
    · exact hr.set_away _ _ hf
    · exact (h.bites i hi).set_away _ _ fun hp b' off e => Ne.symm (own_ne.1 (h.farB i hi hp b' off e))
  · rw [bk_set _ hj]
    split
    · exact h.farP j hj
    · exact h.farP i hi
  · rw [bk_set _ hj]
    split
    · exact fun hp b' off e => own_ne.2 (Ne.symm (hf hp b' off e))
    · exact h.farB i hi
end Go.Proofs.Ytcgchicdmgllaaf
