/- Contracts of the library's Clone, on runs, pieces, bites, queues and books: the same cells, in memory of the call's own. -/
import Derived.Test.YtcgchicdmgllaafPlanM
import Derived.Test.YtcgchicdmgllaafBkA
import Derived.Test.YtcgchicdmgllaafRunsAll
import Derived.Lib.SliceRun
namespace Go.Proofs.Ytcgchicdmgllaaf
open Go.RowKit

theorem cellsOf_one : ∀ (l : RunL), ∀ u ∈ cellsOf l, u.oneCell' = true
  | [], u, h => by simp [cellsOf] at h
  | r :: l, u, h => by
    simp only [cellsOf, List.mem_cons] at h
    rcases h with rfl | rfl | h
    · rfl
    · rfl
    · exact cellsOf_one l u h
theorem RunsIn.list {w : World} {ad : Addr} {n cap : Nat} {l : RunL} (h : RunsIn w (some ad) n cap l) : ∀ j u, (cellsOf l)[j]? = some u → w.cell? (ad.add j) = some u := by
  intro j u hu
  have hj : j < l.length * 2 := by
    have := (List.getElem?_eq_some_iff.1 hu).1
    rwa [cellsOf_length] at this
  have hn := h.len
  obtain ⟨b, off, e, hc⟩ := h.cells (by omega)
  injection e with e
  subst e
  obtain ⟨c0, c1⟩ := hc (j / 2) (by omega)
  rw [Addr.add_lit]
  have h2 : j % 2 = 0 ∨ j % 2 = 1 := by omega
  rcases h2 with h2 | h2
  · have e : j = j / 2 * 2 := by omega
    rw [e, cellsOf_even l _ (by omega)] at hu
    rw [e, ← hu]
    exact c0
  · have e : j = j / 2 * 2 + 1 := by omega
    rw [e, cellsOf_odd l _ (by omega)] at hu
    rw [e, ← hu]
    exact c1
theorem own_pairs {w : World} {B t : Nat} {v : Value} {l : RunL} (h : w.ownsRow B t 2 v l.length (cellsOf l)) (hm : l.length ≤ 1000) : ∃ a cap, v = .slice a l.length cap ∧ RunsIn w a l.length cap l ∧ ∀ b off, a = some ⟨b, off, none⟩ → B ≤ b ∧ off = 0 := by
  rcases h.2 with ⟨rfl, hn⟩ | ⟨g, cap, cur, rfl, hB, hg, hle, hmx, hs, ht⟩
  · refine ⟨none, 0, by rw [hn], ⟨rfl, by omega, by omega, by omega, fun hp => by omega⟩, fun b off e => by cases e⟩
  · refine ⟨some ⟨g, 0, none⟩, cap, rfl, ⟨rfl, hle, by omega, by simpa [maxLen] using hmx, fun hp => ⟨g, 0, rfl, fun i hi => ?_⟩⟩, fun b off e => by
      injection e with e
      injection e with e1 e2
      exact ⟨by omega, e2.symm⟩⟩
    have key : ∀ k u, (cellsOf l)[k]? = some u → w.cell? ⟨g, k, none⟩ = some u := by
      intro k u hu
      rw [← ht, List.getElem?_take] at hu
      split at hu
      · rw [cell_of_row w g k cur _ (0, 0) hg]
        simpa using hu
      · cases hu
    exact ⟨by rw [Nat.zero_add]; exact key _ _ (cellsOf_even l i hi), by rw [Nat.zero_add]; exact key _ _ (cellsOf_odd l i hi)⟩

set_option maxRecDepth 100000 in
set_option maxHeartbeats 1000000 in
theorem CloneRuns_row (w : World) (a : Option Addr) (n c : Nat) (news : List Value) (hl : news.length = n * 2) (hn : n ≤ 1000) (hc : ∀ ad, a = some ad → ∀ j u, news[j]? = some u → w.cell? (ad.add j) = some u) (h1 : ∀ u ∈ news, u.oneCell' = true) (h0 : a = none → n = 0) :
    Calls Try.prog 56 #[.slice a n c] w fun e w' => ∃ v', e = .returned v' ∧ w'.ownsRow w.heap.size 55 2 v' n news ∧ Below w.heap.size w w' := by
  have qe : ∀ (w : World) (a : Option Addr) (n c n' c' : Nat), (binOp .eql 33 (.slice a n c) (.slice none n' c')).run Try.prog w = .ok (.bool a.isNone) w := fun w a n c n' c' => Lib.run_eql_slice_nil w _ _ a n c n' c' Try.underlying33
  obtain ⟨i0, hi, e⟩ := Option.map_eq_some_iff.1 (show (Try.prog.info? 55).map (fun i => (i.zero, i.size, i.bytes)) = some (some (.agg #[.int .i64 0, .int .i64 0]), 2, 16) from by kernel_rfl)
  simp only [Prod.mk.injEq] at e
  obtain ⟨e1, e2, e3⟩ := e
  cases a with
  | none =>
    obtain rfl := h0 rfl
    have hnil : news = [] := List.length_eq_zero_iff.1 (by omega)
    subst hnil
    go_enter Try.func56, Try.ntmps56
    go_wp2
    go_ret
    exact ⟨_, rfl, World.ownsRow_nil _ _ _ _, Below.refl _ _⟩
  | some ad =>
    have HC := hid (hc ad rfl)
    clear hc h0
    go_enter Try.func56, Try.ntmps56
    go_wp2_with (at_builtin; refine wpList_append_own _ rfl _ _ 33 rfl w.heap.size 55 i0 _ 2 16 Try.underlying33 hi e1 e2 e3 (by rfl) (by omega) _ _ _ rfl (World.ownsRow_made w #[] 0 (Nat.le_refl _) (Nat.zero_le _) (by simp)) ad n c news rfl ?qc1 ?qc2 ?qc3 ?qc4 ?qc5 ?qc6 ?_)
    case qc1 => exact hl
    case qc2 =>
      intro j u hj
      exact cell_later ((Below.refl _ _).alloc (Nat.le_refl _) _) (HC.out j u hj)
    case qc3 => exact h1
    case qc4 => simp only [maxLen]; omega
    case qc5 => omega
    case qc6 => simp
    intro v' w1 hown hgrow hnil
    go_wp2
    go_ret
    refine ⟨v', rfl, by simpa using hown, ?_⟩
    exact ((Below.refl _ w).alloc (Nat.le_refl _) _).grown hgrow (by simp) (by intro k hk; simp [Value.ownBlock] at hk; omega)
theorem CloneRuns_any (w : World) (a : Option Addr) (n cap : Nat) (l : RunL) (h : RunsIn w a n cap l) (hn : n ≤ 1000) :
    Calls Try.prog 56 #[.slice a n cap] w fun e w' => ∃ a' c', e = .returned (.slice a' n c') ∧ RunsIn w' a' n c' l ∧ Below w.heap.size w w' ∧ ∀ b off, a' = some ⟨b, off, none⟩ → w.heap.size ≤ b := by
  refine (CloneRuns_row w a n cap (cellsOf l) (by rw [cellsOf_length, h.len]) hn ?_ (cellsOf_one l) ?_).mono ?_
  · rintro ad rfl j u hu
    exact h.list j u hu
  · rintro rfl
    by_cases e : 0 < n
    · obtain ⟨b, off, e, _⟩ := h.cells e
      cases e
    · omega
  · rintro e w' ⟨v', rfl, hO, hb⟩
    obtain ⟨a', c', rfl, h1, h2⟩ := own_pairs (l := l) (h.len ▸ hO) (by have := h.len; omega)
    exact ⟨a', c', by rw [h.len], by rw [h.len]; exact h1, hb, fun b off e => (h2 b off e).1⟩

set_option maxRecDepth 100000 in
set_option maxHeartbeats 1000000 in
theorem ClonePieces_row (w : World) (a : Option Addr) (n c : Nat) (news : List Value) (hl : news.length = n * 2) (hn : n ≤ 1000) (hc : ∀ ad, a = some ad → ∀ j u, news[j]? = some u → w.cell? (ad.add j) = some u) (h1 : ∀ u ∈ news, u.oneCell' = true) (h0 : a = none → n = 0) :
    Calls Try.prog 36 #[.slice a n c] w fun e w' => ∃ v', e = .returned v' ∧ w'.ownsRow w.heap.size 64 2 v' n news ∧ Below w.heap.size w w' := by
  have qe : ∀ (w : World) (a : Option Addr) (n c n' c' : Nat), (binOp .eql 26 (.slice a n c) (.slice none n' c')).run Try.prog w = .ok (.bool a.isNone) w := fun w a n c n' c' => Lib.run_eql_slice_nil w _ _ a n c n' c' Try.underlying26
  obtain ⟨i0, hi, e⟩ := Option.map_eq_some_iff.1 (show (Try.prog.info? 64).map (fun i => (i.zero, i.size, i.bytes)) = some (some (.agg #[.int .i64 0, .int .i64 0]), 2, 16) from by kernel_rfl)
  simp only [Prod.mk.injEq] at e
  obtain ⟨e1, e2, e3⟩ := e
  cases a with
  | none =>
    obtain rfl := h0 rfl
    have hnil : news = [] := List.length_eq_zero_iff.1 (by omega)
    subst hnil
    go_enter Try.func36, Try.ntmps36
    go_wp2
    go_ret
    exact ⟨_, rfl, World.ownsRow_nil _ _ _ _, Below.refl _ _⟩
  | some ad =>
    have HC := hid (hc ad rfl)
    clear hc h0
    go_enter Try.func36, Try.ntmps36
    go_wp2_with (at_builtin; refine wpList_append_own _ rfl _ _ 26 rfl w.heap.size 64 i0 _ 2 16 Try.underlying26 hi e1 e2 e3 (by rfl) (by omega) _ _ _ rfl (World.ownsRow_made w #[] 0 (Nat.le_refl _) (Nat.zero_le _) (by simp)) ad n c news rfl ?qc1 ?qc2 ?qc3 ?qc4 ?qc5 ?qc6 ?_)
    case qc1 => exact hl
    case qc2 =>
      intro j u hj
      exact cell_later ((Below.refl _ _).alloc (Nat.le_refl _) _) (HC.out j u hj)
    case qc3 => exact h1
    case qc4 => simp only [maxLen]; omega
    case qc5 => omega
    case qc6 => simp
    intro v' w1 hown hgrow hnil
    go_wp2
    go_ret
    refine ⟨v', rfl, by simpa using hown, ?_⟩
    exact ((Below.refl _ w).alloc (Nat.le_refl _) _).grown hgrow (by simp) (by intro k hk; simp [Value.ownBlock] at hk; omega)
theorem ClonePieces_any (w : World) (a : Option Addr) (n cap : Nat) (l : RunL) (h : RunsIn w a n cap l) (hn : n ≤ 1000) :
    Calls Try.prog 36 #[.slice a n cap] w fun e w' => ∃ a' c', e = .returned (.slice a' n c') ∧ RunsIn w' a' n c' l ∧ Below w.heap.size w w' ∧ ∀ b off, a' = some ⟨b, off, none⟩ → w.heap.size ≤ b := by
  refine (ClonePieces_row w a n cap (cellsOf l) (by rw [cellsOf_length, h.len]) hn ?_ (cellsOf_one l) ?_).mono ?_
  · rintro ad rfl j u hu
    exact h.list j u hu
  · rintro rfl
    by_cases e : 0 < n
    · obtain ⟨b, off, e, _⟩ := h.cells e
      cases e
    · omega
  · rintro e w' ⟨v', rfl, hO, hb⟩
    obtain ⟨a', c', rfl, h1, h2⟩ := own_pairs (l := l) (h.len ▸ hO) (by have := h.len; omega)
    exact ⟨a', c', by rw [h.len], by rw [h.len]; exact h1, hb, fun b off e => (h2 b off e).1⟩

set_option maxRecDepth 100000 in
set_option maxHeartbeats 1000000 in
theorem CloneBites_row (w : World) (a : Option Addr) (n c : Nat) (news : List Value) (hl : news.length = n * 2) (hn : n ≤ 1000) (hc : ∀ ad, a = some ad → ∀ j u, news[j]? = some u → w.cell? (ad.add j) = some u) (h1 : ∀ u ∈ news, u.oneCell' = true) (h0 : a = none → n = 0) :
    Calls Try.prog 35 #[.slice a n c] w fun e w' => ∃ v', e = .returned v' ∧ w'.ownsRow w.heap.size 45 2 v' n news ∧ Below w.heap.size w w' := by
  have qe : ∀ (w : World) (a : Option Addr) (n c n' c' : Nat), (binOp .eql 41 (.slice a n c) (.slice none n' c')).run Try.prog w = .ok (.bool a.isNone) w := fun w a n c n' c' => Lib.run_eql_slice_nil w _ _ a n c n' c' Try.underlying41
  obtain ⟨i0, hi, e⟩ := Option.map_eq_some_iff.1 (show (Try.prog.info? 45).map (fun i => (i.zero, i.size, i.bytes)) = some (some (.agg #[.int .i64 0, .int .i64 0]), 2, 16) from by kernel_rfl)
  simp only [Prod.mk.injEq] at e
  obtain ⟨e1, e2, e3⟩ := e
  cases a with
  | none =>
    obtain rfl := h0 rfl
    have hnil : news = [] := List.length_eq_zero_iff.1 (by omega)
    subst hnil
    go_enter Try.func35, Try.ntmps35
    go_wp2
    go_ret
    exact ⟨_, rfl, World.ownsRow_nil _ _ _ _, Below.refl _ _⟩
  | some ad =>
    have HC := hid (hc ad rfl)
    clear hc h0
    go_enter Try.func35, Try.ntmps35
    go_wp2_with (at_builtin; refine wpList_append_own _ rfl _ _ 41 rfl w.heap.size 45 i0 _ 2 16 Try.underlying41 hi e1 e2 e3 (by rfl) (by omega) _ _ _ rfl (World.ownsRow_made w #[] 0 (Nat.le_refl _) (Nat.zero_le _) (by simp)) ad n c news rfl ?qc1 ?qc2 ?qc3 ?qc4 ?qc5 ?qc6 ?_)
    case qc1 => exact hl
    case qc2 =>
      intro j u hj
      exact cell_later ((Below.refl _ _).alloc (Nat.le_refl _) _) (HC.out j u hj)
    case qc3 => exact h1
    case qc4 => simp only [maxLen]; omega
    case qc5 => omega
    case qc6 => simp
    intro v' w1 hown hgrow hnil
    go_wp2
    go_ret
    refine ⟨v', rfl, by simpa using hown, ?_⟩
    exact ((Below.refl _ w).alloc (Nat.le_refl _) _).grown hgrow (by simp) (by intro k hk; simp [Value.ownBlock] at hk; omega)
theorem CloneBites_any (w : World) (a : Option Addr) (n cap : Nat) (l : RunL) (h : RunsIn w a n cap l) (hn : n ≤ 1000) :
    Calls Try.prog 35 #[.slice a n cap] w fun e w' => ∃ a' c', e = .returned (.slice a' n c') ∧ RunsIn w' a' n c' l ∧ Below w.heap.size w w' ∧ ∀ b off, a' = some ⟨b, off, none⟩ → w.heap.size ≤ b := by
  refine (CloneBites_row w a n cap (cellsOf l) (by rw [cellsOf_length, h.len]) hn ?_ (cellsOf_one l) ?_).mono ?_
  · rintro ad rfl j u hu
    exact h.list j u hu
  · rintro rfl
    by_cases e : 0 < n
    · obtain ⟨b, off, e, _⟩ := h.cells e
      cases e
    · omega
  · rintro e w' ⟨v', rfl, hO, hb⟩
    obtain ⟨a', c', rfl, h1, h2⟩ := own_pairs (l := l) (h.len ▸ hO) (by have := h.len; omega)
    exact ⟨a', c', by rw [h.len], by rw [h.len]; exact h1, hb, fun b off e => (h2 b off e).1⟩

/- queues as rows of cells -/
def quCell (q : Qu) : List Value := [.string q.name, .int .i64 q.parent, .slice q.ca q.cn q.cc]
def quCells : QL → List Value
  | [] => []
  | x :: l => quCell x ++ quCells l
theorem quCells_length : ∀ l : QL, (quCells l).length = l.length * 3
  | [] => rfl
  | x :: l => by simp only [quCells, List.length_append, quCells_length l, List.length_cons, quCell]; simp; omega
theorem quCells_one : ∀ (l : QL), ∀ u ∈ quCells l, u.oneCell' = true
  | [], u, h => by simp [quCells] at h
  | x :: l, u, h => by
    rcases List.mem_append.1 h with h | h
    · simp only [quCell, List.mem_cons, List.not_mem_nil, or_false] at h
      rcases h with rfl | rfl | rfl <;> rfl
    · exact quCells_one l u h
theorem quCells_at : ∀ (l : QL) (i k : Nat), i < l.length → k < 3 → (quCells l)[i * 3 + k]? = (quCell (qu l i))[k]?
  | [], i, k, h, _ => by simp at h
  | x :: l, 0, k, _, hk => by
    rw [quCells, List.getElem?_append_left (by simp [quCell]; omega), Nat.zero_mul, Nat.zero_add]
    rfl
  | x :: l, i + 1, k, h, hk => by
    have := quCells_at l i k (by simpa using h) hk
    rw [quCells, List.getElem?_append_right (by simp [quCell]; omega), show (i + 1) * 3 + k - (quCell x).length = i * 3 + k from by simp [quCell]; omega, this]
    rfl
theorem QsIn.list {w : World} {ad : Addr} {n cap : Nat} {l : QL} (h : QsIn w (some ad) n cap l) : ∀ j u, (quCells l)[j]? = some u → w.cell? (ad.add j) = some u := by
  intro j u hu
  have hj : j < l.length * 3 := by
    have := (List.getElem?_eq_some_iff.1 hu).1
    rwa [quCells_length] at this
  have hi : j / 3 < l.length := by omega
  have hk : j % 3 < 3 := by omega
  have hn := h.len
  obtain ⟨b', o', e, hc⟩ := h.cells (by omega)
  injection e with e
  subst e
  obtain ⟨c0, c1, c2⟩ := hc (j / 3) (by omega)
  have ej : j = j / 3 * 3 + j % 3 := by omega
  rw [ej, quCells_at l _ _ hi hk] at hu
  rw [Addr.add_lit, ej]
  obtain ⟨m, hm⟩ : ∃ m, j % 3 = m := ⟨_, rfl⟩
  rw [hm] at hu hk ⊢
  rw [← Nat.add_assoc]
  match m, hk with
  | 0, _ => simp [quCell] at hu; rw [← hu]; exact c0
  | 1, _ => simp [quCell] at hu; rw [← hu]; exact c1
  | 2, _ => simp [quCell] at hu; rw [← hu]; exact c2
  | m + 3, hk => omega
theorem own_qs {w : World} {B : Nat} {v : Value} {l : QL} (h : w.ownsRow B 35 3 v l.length (quCells l)) (hc : ∀ i, i < l.length → RunsIn w (qu l i).ca (qu l i).cn (qu l i).cc (qu l i).runs) (hs : ∀ i, i < l.length → (qu l i).name.size ≤ 9223372036854775807) :
    ∃ a cap, v = .slice a l.length cap ∧ QsIn w a l.length cap l ∧ ∀ b off, a = some ⟨b, off, none⟩ → B ≤ b ∧ off = 0 := by
  rcases h.2 with ⟨rfl, hn⟩ | ⟨g, cap, cur, rfl, hB, hg, hle, hm, hz, ht⟩
  · refine ⟨none, 0, by rw [hn], ⟨rfl, by omega, by omega, fun hp => by omega, fun i hi => by omega, fun i hi => by omega⟩, fun b off e => by cases e⟩
  · refine ⟨some ⟨g, 0, none⟩, cap, rfl, ⟨rfl, hle, by simpa [maxLen] using hm, fun hp => ⟨g, 0, rfl, fun i hi => ?_⟩, hc, hs⟩, fun b off e => by
      injection e with e
      injection e with e1 e2
      exact ⟨by omega, e2.symm⟩⟩
    have key : ∀ k u, k < 3 → (quCell (qu l i))[k]? = some u → w.cell? ⟨g, 0 + i * 3 + k, none⟩ = some u := by
      intro k u hk hu
      rw [← quCells_at l i k hi hk, ← ht, List.getElem?_take] at hu
      rw [Nat.zero_add]
      split at hu
      · rw [cell_of_row w g (i * 3 + k) cur _ (0, 0) hg]
        simpa using hu
      · cases hu
    exact ⟨key 0 _ (by omega) rfl, key 1 _ (by omega) rfl, key 2 _ (by omega) rfl⟩

set_option maxRecDepth 100000 in
set_option maxHeartbeats 1000000 in
theorem CloneQs_row (w : World) (a : Option Addr) (n c : Nat) (news : List Value) (hl : news.length = n * 3) (hn : n ≤ 1000) (hc : ∀ ad, a = some ad → ∀ j u, news[j]? = some u → w.cell? (ad.add j) = some u) (h1 : ∀ u ∈ news, u.oneCell' = true) (h0 : a = none → n = 0) :
    Calls Try.prog 55 #[.slice a n c] w fun e w' => ∃ v', e = .returned v' ∧ w'.ownsRow w.heap.size 35 3 v' n news ∧ Below w.heap.size w w' := by
  have qe : ∀ (w : World) (a : Option Addr) (n c n' c' : Nat), (binOp .eql 22 (.slice a n c) (.slice none n' c')).run Try.prog w = .ok (.bool a.isNone) w := fun w a n c n' c' => Lib.run_eql_slice_nil w _ _ a n c n' c' Try.underlying22
  obtain ⟨i0, hi, e⟩ := Option.map_eq_some_iff.1 (show (Try.prog.info? 35).map (fun i => (i.zero, i.size, i.bytes)) = some (some (.agg #[.string ⟨#[]⟩, .int .i64 0, .slice none 0 0]), 3, 48) from by kernel_rfl)
  simp only [Prod.mk.injEq] at e
  obtain ⟨e1, e2, e3⟩ := e
  cases a with
  | none =>
    obtain rfl := h0 rfl
    have hnil : news = [] := List.length_eq_zero_iff.1 (by omega)
    subst hnil
    go_enter Try.func55, Try.ntmps55
    go_wp2
    go_ret
    exact ⟨_, rfl, World.ownsRow_nil _ _ _ _, Below.refl _ _⟩
  | some ad =>
    have HC := hid (hc ad rfl)
    clear hc h0
    go_enter Try.func55, Try.ntmps55
    go_wp2_with (at_builtin; refine wpList_append_own _ rfl _ _ 22 rfl w.heap.size 35 i0 _ 3 48 Try.underlying22 hi e1 e2 e3 (by rfl) (by omega) _ _ _ rfl (World.ownsRow_made w #[] 0 (Nat.le_refl _) (Nat.zero_le _) (by simp)) ad n c news rfl ?qc1 ?qc2 ?qc3 ?qc4 ?qc5 ?qc6 ?_)
    case qc1 => exact hl
    case qc2 =>
      intro j u hj
      exact cell_later ((Below.refl _ _).alloc (Nat.le_refl _) _) (HC.out j u hj)
    case qc3 => exact h1
    case qc4 => simp only [maxLen]; omega
    case qc5 => omega
    case qc6 => simp
    intro v' w1 hown hgrow hnil
    go_wp2
    go_ret
    refine ⟨v', rfl, by simpa using hown, ?_⟩
    exact ((Below.refl _ w).alloc (Nat.le_refl _) _).grown hgrow (by simp) (by intro k hk; simp [Value.ownBlock] at hk; omega)

set_option maxRecDepth 100000 in
set_option maxHeartbeats 1000000 in
theorem CloneBks_row (w : World) (a : Option Addr) (n c : Nat) (news : List Value) (hl : news.length = n * 7) (hn : n ≤ 1000) (hc : ∀ ad, a = some ad → ∀ j u, news[j]? = some u → w.cell? (ad.add j) = some u) (h1 : ∀ u ∈ news, u.oneCell' = true) (h0 : a = none → n = 0) :
    Calls Try.prog 34 #[.slice a n c] w fun e w' => ∃ v', e = .returned v' ∧ w'.ownsRow w.heap.size 43 7 v' n news ∧ Below w.heap.size w w' := by
  have qe : ∀ (w : World) (a : Option Addr) (n c n' c' : Nat), (binOp .eql 23 (.slice a n c) (.slice none n' c')).run Try.prog w = .ok (.bool a.isNone) w := fun w a n c n' c' => Lib.run_eql_slice_nil w _ _ a n c n' c' Try.underlying23
  obtain ⟨i0, hi, e⟩ := Option.map_eq_some_iff.1 (show (Try.prog.info? 43).map (fun i => (i.zero, i.size, i.bytes)) = some (some (.agg #[.int .i64 0, .int .i64 0, .int .i64 0, .int .i64 0, .int .i64 0, .slice none 0 0, .slice none 0 0]), 7, 88) from by kernel_rfl)
  simp only [Prod.mk.injEq] at e
  obtain ⟨e1, e2, e3⟩ := e
  cases a with
  | none =>
    obtain rfl := h0 rfl
    have hnil : news = [] := List.length_eq_zero_iff.1 (by omega)
    subst hnil
    go_enter Try.func34, Try.ntmps34
    go_wp2
    go_ret
    exact ⟨_, rfl, World.ownsRow_nil _ _ _ _, Below.refl _ _⟩
  | some ad =>
    have HC := hid (hc ad rfl)
    clear hc h0
    go_enter Try.func34, Try.ntmps34
    go_wp2_with (at_builtin; refine wpList_append_own _ rfl _ _ 23 rfl w.heap.size 43 i0 _ 7 88 Try.underlying23 hi e1 e2 e3 (by rfl) (by omega) _ _ _ rfl (World.ownsRow_made w #[] 0 (Nat.le_refl _) (Nat.zero_le _) (by simp)) ad n c news rfl ?qc1 ?qc2 ?qc3 ?qc4 ?qc5 ?qc6 ?_)
    case qc1 => exact hl
    case qc2 =>
      intro j u hj
      exact cell_later ((Below.refl _ _).alloc (Nat.le_refl _) _) (HC.out j u hj)
    case qc3 => exact h1
    case qc4 => simp only [maxLen]; omega
    case qc5 => omega
    case qc6 => simp
    intro v' w1 hown hgrow hnil
    go_wp2
    go_ret
    refine ⟨v', rfl, by simpa using hown, ?_⟩
    exact ((Below.refl _ w).alloc (Nat.le_refl _) _).grown hgrow (by simp) (by intro k hk; simp [Value.ownBlock] at hk; omega)
end Go.Proofs.Ytcgchicdmgllaaf
