/- What the texts of package text lean on: queues that the call made, one put behind others; the reference's CheckTree, SameTrees (gathered out of elder texts of ours). -/
import Derived.Test.YtckpdfkobdgjeaaDoorKTreeAll
import Derived.Test.YtckpdfkobdgjeaaDoorKAnyE
import Derived.Test.YtckpdfkobdgjeaaDoorKAnyK
import Derived.Test.YtckpdfkobdgjeaaDoorKAnyS
import Derived.Deep.AppendLies
import Derived.Deep.LoopGhost
import Derived.Deep.DeepCutAuto
import Derived.Deep.RegionHeld3
import Derived.Lib.SliceRun
import Derived.WalkLawsBesides
import Derived.BigQuiet
namespace Go.Proofs.YtckpdfkobdgjeaaDoor
open Go.RowKit
theorem RunsIn.grown {X Y : World} {row : Option Nat} {a : Option Addr} {n cap : Nat} {l : RunL} (h : RunsIn X a n cap l) (hg : X.grownBy Y row) (hr : ∀ r, row = some r → ∃ o : Obj, X.heap[r]? = some o ∧ o.isCells = false) : RunsIn Y a n cap l := by
  refine ⟨h.len, h.le, h.bound, h.capb, fun hp => ?_⟩
  obtain ⟨b, off, ha, hc⟩ := h.cells hp
  have hlt : b < X.heap.size := block_lt_of_cell (hc 0 hp).1
  have hne : some b ≠ row := by
    intro e
    obtain ⟨o, h1, h2⟩ := hr b e.symm
    have h3 := (hc 0 hp).1
    simp only [World.cell?, h1] at h3
    cases o with
    | cells => cases h2
    | _ => simp at h3
  have e := hg.block b hlt hne
  exact ⟨b, off, ha, fun i hi => ⟨(World.cell?_of_block (w := X) (a := ⟨b, off + i * 2, none⟩) e).trans (hc i hi).1, (World.cell?_of_block (w := X) (a := ⟨b, off + i * 2 + 1, none⟩) e).trans (hc i hi).2⟩⟩
theorem RunsIn.of_blocks {w w' : World} {a : Option Addr} {n cap : Nat} {l : RunL} (h : RunsIn w a n cap l) (hb : ∀ b off, a = some ⟨b, off, none⟩ → w'.heap[b]? = w.heap[b]?) : RunsIn w' a n cap l := by
  refine ⟨h.len, h.le, h.bound, h.capb, fun hp => ?_⟩
  obtain ⟨b, off, ha, hc⟩ := h.cells hp
  have e := hb b off ha
  exact ⟨b, off, ha, fun i hi => ⟨(World.cell?_of_block (w := w) (a := ⟨b, off + i * 2, none⟩) e).trans (hc i hi).1, (World.cell?_of_block (w := w) (a := ⟨b, off + i * 2 + 1, none⟩) e).trans (hc i hi).2⟩⟩
theorem RunsIn.of_away {w w' : World} {a : Option Addr} {n cap : Nat} {l : RunL} (h : RunsIn w a n cap l) (hb : 0 < n → ∀ b off, a = some ⟨b, off, none⟩ → w'.heap[b]? = w.heap[b]?) : RunsIn w' a n cap l := by
  by_cases hp : 0 < n
  · exact h.of_blocks (hb hp)
  · exact ⟨h.len, h.le, h.bound, h.capb, fun h => absurd h hp⟩
theorem RunsIn.lt {w : World} {a : Option Addr} {n cap : Nat} {l : RunL} (h : RunsIn w a n cap l) (hp : 0 < n) {b off : Nat} (e : a = some ⟨b, off, none⟩) : b < w.heap.size := by
  obtain ⟨b', off', ha, hc⟩ := h.cells hp
  rw [e] at ha
  cases ha
  exact block_lt_of_cell (hc 0 hp).1
theorem ownsRow_later {w w' : World} {B t s n : Nat} {v : Value} {xs : List Value} (h : w.ownsRow B t s v n xs) (hb : Below w.heap.size w w') : w'.ownsRow B t s v n xs := by
  refine ⟨h.1, ?_⟩
  rcases h.2 with hn | ⟨g, cap, cur, rfl, hB, hg, rest⟩
  · exact .inl hn
  · refine .inr ⟨g, cap, cur, rfl, hB, ?_, rest⟩
    rw [hb.block g (Array.getElem?_eq_some_iff.1 hg).1]
    exact hg
theorem exec_append {P : Program} {o : Oper} {ev : Operand → Value} {w w' : World} {v' : Value} (s x : Operand) (t : TypeId) (ho : o.op = .call { callee := .builtin .append, args := #[s, x], argTypes := #[t, t] }) (v y : Value) (hs : ev s = v) (hx : ev x = y)
    (hr : (Builtin.append_ #[t, t] o.type #[v, y]).run P w = .ok v' w') : (execOp ev o).run P w = .ok (.value v') w' := by
  unfold execOp
  simp only [ho, resolve, invoke, builtin, Sem.run_bind, Sem.run_pure, Result.andThen_ok, List.map_toArray, List.map_cons, List.map_nil, hs, hx, hr]
def Qu.bare (q : Qu) : Qu := ⟨q.name, q.parent, none, 0, 0, q.runs⟩
def bareQ (l : QL) : QL := l.map Qu.bare
theorem qu_bare (l : QL) (i : Nat) : qu (bareQ l) i = (qu l i).bare := by
  unfold qu bareQ
  rw [List.getD_eq_getElem?_getD, List.getD_eq_getElem?_getD, List.getElem?_map]
  cases l[i]? <;> rfl
def quCell (q : Qu) : List Value := [.string q.name, .int .i64 q.parent, .slice q.ca q.cn q.cc]
def quCells : QL → List Value
  | [] => []
  | x :: l => quCell x ++ quCells l
theorem quCells_one : ∀ (l : QL), ∀ u ∈ quCells l, u.oneCell' = true
  | [], u, h => by simp [quCells] at h
  | x :: l, u, h => by
    rcases List.mem_append.1 h with h | h
    · simp only [quCell, List.mem_cons, List.not_mem_nil, or_false] at h
      rcases h with rfl | rfl | rfl <;> rfl
    · exact quCells_one l u h
theorem quCells_at : ∀ (l : QL) (i k : Nat), i < l.length → k < 3 → (quCells l)[i * 3 + k]? = (quCell (qu l i))[k]?
  | [], i, k, h, _ => by simp at h
  | x :: l, 0, k, _, hk => by
    rw [quCells, List.getElem?_append_left (by simp [quCell]; omega), Nat.zero_mul, Nat.zero_add]
    rfl
  | x :: l, i + 1, k, h, hk => by
    have := quCells_at l i k (by simpa using h) hk
    rw [quCells, List.getElem?_append_right (by simp [quCell]; omega), show (i + 1) * 3 + k - (quCell x).length = i * 3 + k from by simp [quCell]; omega, this]
    rfl
theorem own_qs {w : World} {B : Nat} {v : Value} {l : QL} (h : w.ownsRow B 41 3 v l.length (quCells l)) (hc : ∀ i, i < l.length → RunsIn w (qu l i).ca (qu l i).cn (qu l i).cc (qu l i).runs) (hs : ∀ i, i < l.length → (qu l i).name.size ≤ 9223372036854775807) :
    ∃ a cap, v = .slice a l.length cap ∧ QsIn w a l.length cap l ∧ ∀ b off, a = some ⟨b, off, none⟩ → B ≤ b ∧ off = 0 := by
  rcases h.2 with ⟨rfl, hn⟩ | ⟨g, cap, cur, rfl, hB, hg, hle, hm, hz, ht⟩
  · refine ⟨none, 0, by rw [hn], ⟨rfl, by omega, by omega, fun hp => by omega, fun i hi => by omega, fun i hi => by omega⟩, fun b off e => by cases e⟩
  · refine ⟨some ⟨g, 0, none⟩, cap, rfl, ⟨rfl, hle, by simpa [maxLen] using hm, fun hp => ⟨g, 0, rfl, fun i hi => ?_⟩, hc, hs⟩, fun b off e => by
      injection e with e
      injection e with e1 e2
      exact ⟨by omega, e2.symm⟩⟩
    have key : ∀ k u, k < 3 → (quCell (qu l i))[k]? = some u → w.cell? ⟨g, 0 + i * 3 + k, none⟩ = some u := by
      intro k u hk hu
      rw [← quCells_at l i k hi hk, ← ht, List.getElem?_take] at hu
      rw [Nat.zero_add]
      split at hu
      · rw [cell_of_row w g (i * 3 + k) cur _ (0, 0) hg]
        simpa using hu
      · cases hu
    exact ⟨key 0 _ (by omega) rfl, key 1 _ (by omega) rfl, key 2 _ (by omega) rfl⟩
structure OwnQs (w : World) (B : Nat) (v : Value) (l : QL) : Prop where
  row : w.ownsRow B 41 3 v l.length (quCells l)
  caps : ∀ i, i < l.length → RunsIn w (qu l i).ca (qu l i).cn (qu l i).cc (qu l i).runs
  far : ∀ i, i < l.length → 0 < (qu l i).cn → ∀ b off, (qu l i).ca = some ⟨b, off, none⟩ → v.ownBlock ≠ some b
  names : ∀ i, i < l.length → (qu l i).name.size ≤ 9223372036854775807
theorem OwnQs.later {w w' : World} {B : Nat} {v : Value} {l : QL} (h : OwnQs w B v l) (hb : Below w.heap.size w w') : OwnQs w' B v l :=
  ⟨ownsRow_later h.row hb, fun i hi => (h.caps i hi).later hb, h.far, h.names⟩
theorem OwnQs.qs {w : World} {B : Nat} {v : Value} {l : QL} (h : OwnQs w B v l) : ∃ a cap, v = .slice a l.length cap ∧ QsIn w a l.length cap l ∧ ∀ b off, a = some ⟨b, off, none⟩ → B ≤ b ∧ off = 0 := own_qs h.row h.caps h.names
theorem same_qu {l m : QL} (h : bareQ l = bareQ m) (i : Nat) : (qu l i).name = (qu m i).name ∧ (qu l i).parent = (qu m i).parent ∧ (qu l i).runs = (qu m i).runs := by
  have e : (qu l i).bare = (qu m i).bare := by rw [← qu_bare, h, qu_bare]
  exact ⟨show (qu l i).bare.name = (qu m i).bare.name by rw [e], show (qu l i).bare.parent = (qu m i).bare.parent by rw [e], show (qu l i).bare.runs = (qu m i).bare.runs by rw [e]⟩
set_option maxRecDepth 100000 in
set_option maxHeartbeats 1000000 in
theorem SameTrees_same (w : World) (a1 a2 : Option Addr) (n cap1 cap2 : Nat) (l m0 : QL) (h1 : QsIn w a1 n cap1 l) (h2 : QsIn w a2 n cap2 m0) (he : bareQ l = bareQ m0) :
    Calls Tryd.prog 11 #[.slice a1 n cap1, .slice a2 n cap2] w fun e w' => e = .returned (.bool true) ∧ Below w.heap.size w w' := by
  have hle := h1.le
  have hcb := h1.capb
  have hle2 := h2.le
  have hcb2 := h2.capb
  have hne : ((n : Int) != n) = false := by simp
  by_cases hp : 0 < n
  · obtain ⟨b1, o1, rfl, c1⟩ := h1.cells hp
    obtain ⟨b2, o2, rfl, c2⟩ := h2.cells hp
    have KC : Hid (∀ (Y : World), Below w.heap.size w Y → ∀ j, j < n → ∃ s p x1 m k1 x2 k2 r, (Y.cell? ⟨b1, o1 + j * 3, none⟩ = some (.string s) ∧ Y.cell? ⟨b1, o1 + j * 3 + 1, none⟩ = some (.int .i64 p) ∧ Y.cell? ⟨b1, o1 + j * 3 + 2, none⟩ = some (.slice x1 m k1)) ∧ (Y.cell? ⟨b2, o2 + j * 3, none⟩ = some (.string s) ∧ Y.cell? ⟨b2, o2 + j * 3 + 1, none⟩ = some (.int .i64 p) ∧ Y.cell? ⟨b2, o2 + j * 3 + 2, none⟩ = some (.slice x2 m k2)) ∧ RunsIn Y x1 m k1 r ∧ RunsIn Y x2 m k2 r) := by
      intro Y hY j hj
      obtain ⟨u0, u1, u2⟩ := c1 j hj
      obtain ⟨v0, v1, v2⟩ := c2 j hj
      obtain ⟨q0, q1, q2⟩ := same_qu he j
      have r1 := (h1.caps j hj).later hY
      have r2 := (h2.caps j hj).later hY
      have em : (qu l j).cn = (qu m0 j).cn := r1.len.trans ((congrArg List.length q2).trans r2.len.symm)
      rw [q0] at u0
      rw [q1] at u1
      rw [em] at u2 r1
      rw [q2] at r1
      exact ⟨_, _, _, _, _, _, _, _, ⟨cell_later hY u0, cell_later hY u1, cell_later hY u2⟩, ⟨cell_later hY v0, cell_later hY v1, cell_later hY v2⟩, r1, r2⟩
    clear h1 h2 he c1 c2
    go_enter Tryd.func11, Tryd.ntmps11
    go_wp2_with fail
    go_loopw [5] (fun p wr => ∃ j : Nat, p = .int .i64 j ∧ j ≤ n ∧ Below w.heap.size w wr) (fun p _ => n - (intOf p).toNat)
    case atStart => exact ⟨0, rfl, by omega, Below.refl _ _⟩
    case round =>
      obtain ⟨j, rfl, hj, hbel⟩ := hrel
      have HBL := hid hbel
      clear hbel
      by_cases hlt : j < n
      · have hlt' : (j : Int) < n := by omega
        obtain ⟨s, p, x1, m, k1, x2, k2, r, ⟨u0, u1, u2⟩, ⟨v0, v1, v2⟩, r1, r2⟩ := KC.out wr HBL.out j hlt
        have C10 := hid u0
        have C11 := hid u1
        have C12 := hid u2
        have C20 := hid v0
        have C21 := hid v1
        have C22 := hid v2
        have KP := hid fun Y (hY : Below wr.heap.size wr Y) => SameRuns_same Y x1 x2 m k1 k2 r (r1.later hY) (r2.later hY)
        clear u0 u1 u2 v0 v1 v2 r1 r2
        go_wp2_with fail
        go_cut [54] (fun p wx => p = .bool false ∧ Below wr.heap.size wr wx)
        case first =>
          refine wp_region_des ((Tryd.f11.body.bind fun c => regOps c 6).getD #[]) (by kernel_rfl) [isV (.slice (some ⟨b1, o1, none⟩) n cap1), isV (.int .i64 j), isV (.pointer (some ⟨b1, o1 + j * 3, none⟩)), isV (.pointer (some ⟨b1, o1 + j * 3, none⟩)), isV (.string s), isV (.slice (some ⟨b2, o2, none⟩) n cap2), isV (.int .i64 j), isV (.pointer (some ⟨b2, o2 + j * 3, none⟩)), isV (.pointer (some ⟨b2, o2 + j * 3, none⟩)), isV (.string s), isV (.bool false), isV (.bool false), isV (.slice (some ⟨b1, o1, none⟩) n cap1), isV (.int .i64 j), isV (.pointer (some ⟨b1, o1 + j * 3, none⟩)), isV (.pointer (some ⟨b1, o1 + j * 3 + 1, none⟩)), isV (.int .i64 p), isV (.slice (some ⟨b2, o2, none⟩) n cap2), isV (.int .i64 j), isV (.pointer (some ⟨b2, o2 + j * 3, none⟩)), isV (.pointer (some ⟨b2, o2 + j * 3 + 1, none⟩)), isV (.int .i64 p), isV (.bool false), isV (.bool false), isV (.bool false), isV (.slice (some ⟨b1, o1, none⟩) n cap1), isV (.int .i64 j), isV (.pointer (some ⟨b1, o1 + j * 3, none⟩)), isV (.pointer (some ⟨b1, o1 + j * 3 + 2, none⟩)), isV (.slice x1 m k1), isV (.slice (some ⟨b2, o2, none⟩) n cap2), isV (.int .i64 j), isV (.pointer (some ⟨b2, o2 + j * 3, none⟩)), isV (.pointer (some ⟨b2, o2 + j * 3 + 2, none⟩)), isV (.slice x2 m k2), isV (.bool true), isV (.bool false), isV (.bool false)] [(11, false), (24, false)] (by kernel_rfl) (by kernel_rfl) (by kernel_rfl) ?hg ?hstep ?hfin
          case hg =>
            intro g hg v w h
            simp only [List.mem_cons, List.not_mem_nil, or_false] at hg
            rcases hg with rfl | rfl <;> exact h
          case hstep =>
            refine AllOps.cons 1 rfl ?_ ?_
            · intro T w' hb hl hd
              have h0 : T.getD 0 undef = .slice (some ⟨b1, o1, none⟩) n cap1 := hl 0 (by kernel_rfl)
              exact Or.inl ⟨.slice (some ⟨b1, o1, none⟩) n cap1, w', by go_simp, rfl, Below.refl _ _⟩
            refine AllOps.cons 2 rfl ?_ ?_
            · intro T w' hb hl hd
              have h0 : T.getD 5 undef = .int .i64 j := hl 5 (by kernel_rfl)
              exact Or.inl ⟨.int .i64 j, w', by go_simp, rfl, Below.refl _ _⟩
            refine AllOps.cons 3 rfl ?_ ?_
            · intro T w' hb hl hd
              have h0 : T.getD 17 undef = .slice (some ⟨b1, o1, none⟩) n cap1 := hd 0 17 (by kernel_rfl)
              have h1 : T.getD 18 undef = .int .i64 j := hd 1 18 (by kernel_rfl)
              exact Or.inl ⟨.pointer (some ⟨b1, o1 + j * 3, none⟩), w', by go_simp, rfl, Below.refl _ _⟩
            refine AllOps.cons 4 rfl ?_ ?_
            · intro T w' hb hl hd
              have h0 : T.getD 19 undef = .pointer (some ⟨b1, o1 + j * 3, none⟩) := hd 2 19 (by kernel_rfl)
              exact Or.inl ⟨.pointer (some ⟨b1, o1 + j * 3, none⟩), w', by go_simp, rfl, Below.refl _ _⟩
            refine AllOps.cons 5 rfl ?_ ?_
            · intro T w' hb hl hd
              have h0 : T.getD 20 undef = .pointer (some ⟨b1, o1 + j * 3, none⟩) := hd 3 20 (by kernel_rfl)
              have cc := cell_later hb C10.out
              exact Or.inl ⟨.string s, w', by go_simp, rfl, Below.refl _ _⟩
            refine AllOps.cons 6 rfl ?_ ?_
            · intro T w' hb hl hd
              have h0 : T.getD 1 undef = .slice (some ⟨b2, o2, none⟩) n cap2 := hl 1 (by kernel_rfl)
              exact Or.inl ⟨.slice (some ⟨b2, o2, none⟩) n cap2, w', by go_simp, rfl, Below.refl _ _⟩
            refine AllOps.cons 7 rfl ?_ ?_
            · intro T w' hb hl hd
              have h0 : T.getD 5 undef = .int .i64 j := hl 5 (by kernel_rfl)
              exact Or.inl ⟨.int .i64 j, w', by go_simp, rfl, Below.refl _ _⟩
            refine AllOps.cons 8 rfl ?_ ?_
            · intro T w' hb hl hd
              have h0 : T.getD 22 undef = .slice (some ⟨b2, o2, none⟩) n cap2 := hd 5 22 (by kernel_rfl)
              have h1 : T.getD 23 undef = .int .i64 j := hd 6 23 (by kernel_rfl)
              exact Or.inl ⟨.pointer (some ⟨b2, o2 + j * 3, none⟩), w', by go_simp, rfl, Below.refl _ _⟩
            refine AllOps.cons 9 rfl ?_ ?_
            · intro T w' hb hl hd
              have h0 : T.getD 24 undef = .pointer (some ⟨b2, o2 + j * 3, none⟩) := hd 7 24 (by kernel_rfl)
              exact Or.inl ⟨.pointer (some ⟨b2, o2 + j * 3, none⟩), w', by go_simp, rfl, Below.refl _ _⟩
            refine AllOps.cons 10 rfl ?_ ?_
            · intro T w' hb hl hd
              have h0 : T.getD 25 undef = .pointer (some ⟨b2, o2 + j * 3, none⟩) := hd 8 25 (by kernel_rfl)
              have cc := cell_later hb C20.out
              exact Or.inl ⟨.string s, w', by go_simp, rfl, Below.refl _ _⟩
            refine AllOps.cons 11 rfl ?_ ?_
            · intro T w' hb hl hd
              have h0 : T.getD 21 undef = .string s := hd 4 21 (by kernel_rfl)
              have h1 : T.getD 26 undef = .string s := hd 9 26 (by kernel_rfl)
              exact Or.inl ⟨.bool false, w', by go_simp, rfl, Below.refl _ _⟩
            refine AllOps.cons 12 rfl ?_ ?_
            · intro T w' hb hl hd
              have h0 : T.getD 27 undef = .bool false := hd 10 27 (by kernel_rfl)
              exact Or.inl ⟨.bool false, w', by go_simp, rfl, Below.refl _ _⟩
            refine AllOps.cons 13 rfl ?_ ?_
            · intro T w' hb hl hd
              have h0 : T.getD 0 undef = .slice (some ⟨b1, o1, none⟩) n cap1 := hl 0 (by kernel_rfl)
              exact Or.inl ⟨.slice (some ⟨b1, o1, none⟩) n cap1, w', by go_simp, rfl, Below.refl _ _⟩
            refine AllOps.cons 14 rfl ?_ ?_
            · intro T w' hb hl hd
              have h0 : T.getD 5 undef = .int .i64 j := hl 5 (by kernel_rfl)
              exact Or.inl ⟨.int .i64 j, w', by go_simp, rfl, Below.refl _ _⟩
            refine AllOps.cons 15 rfl ?_ ?_
            · intro T w' hb hl hd
              have h0 : T.getD 29 undef = .slice (some ⟨b1, o1, none⟩) n cap1 := hd 12 29 (by kernel_rfl)
              have h1 : T.getD 30 undef = .int .i64 j := hd 13 30 (by kernel_rfl)
              exact Or.inl ⟨.pointer (some ⟨b1, o1 + j * 3, none⟩), w', by go_simp, rfl, Below.refl _ _⟩
            refine AllOps.cons 16 rfl ?_ ?_
            · intro T w' hb hl hd
              have h0 : T.getD 31 undef = .pointer (some ⟨b1, o1 + j * 3, none⟩) := hd 14 31 (by kernel_rfl)
              exact Or.inl ⟨.pointer (some ⟨b1, o1 + j * 3 + 1, none⟩), w', by go_simp, rfl, Below.refl _ _⟩
            refine AllOps.cons 17 rfl ?_ ?_
            · intro T w' hb hl hd
              have h0 : T.getD 32 undef = .pointer (some ⟨b1, o1 + j * 3 + 1, none⟩) := hd 15 32 (by kernel_rfl)
              have cc := cell_later hb C11.out
              exact Or.inl ⟨.int .i64 p, w', by go_simp, rfl, Below.refl _ _⟩
            refine AllOps.cons 18 rfl ?_ ?_
            · intro T w' hb hl hd
              have h0 : T.getD 1 undef = .slice (some ⟨b2, o2, none⟩) n cap2 := hl 1 (by kernel_rfl)
              exact Or.inl ⟨.slice (some ⟨b2, o2, none⟩) n cap2, w', by go_simp, rfl, Below.refl _ _⟩
            refine AllOps.cons 19 rfl ?_ ?_
            · intro T w' hb hl hd
              have h0 : T.getD 5 undef = .int .i64 j := hl 5 (by kernel_rfl)
              exact Or.inl ⟨.int .i64 j, w', by go_simp, rfl, Below.refl _ _⟩
            refine AllOps.cons 20 rfl ?_ ?_
            · intro T w' hb hl hd
              have h0 : T.getD 34 undef = .slice (some ⟨b2, o2, none⟩) n cap2 := hd 17 34 (by kernel_rfl)
              have h1 : T.getD 35 undef = .int .i64 j := hd 18 35 (by kernel_rfl)
              exact Or.inl ⟨.pointer (some ⟨b2, o2 + j * 3, none⟩), w', by go_simp, rfl, Below.refl _ _⟩
            refine AllOps.cons 21 rfl ?_ ?_
            · intro T w' hb hl hd
              have h0 : T.getD 36 undef = .pointer (some ⟨b2, o2 + j * 3, none⟩) := hd 19 36 (by kernel_rfl)
              exact Or.inl ⟨.pointer (some ⟨b2, o2 + j * 3 + 1, none⟩), w', by go_simp, rfl, Below.refl _ _⟩
            refine AllOps.cons 22 rfl ?_ ?_
            · intro T w' hb hl hd
              have h0 : T.getD 37 undef = .pointer (some ⟨b2, o2 + j * 3 + 1, none⟩) := hd 20 37 (by kernel_rfl)
              have cc := cell_later hb C21.out
              exact Or.inl ⟨.int .i64 p, w', by go_simp, rfl, Below.refl _ _⟩
            refine AllOps.cons 23 rfl ?_ ?_
            · intro T w' hb hl hd
              have h0 : T.getD 33 undef = .int .i64 p := hd 16 33 (by kernel_rfl)
              have h1 : T.getD 38 undef = .int .i64 p := hd 21 38 (by kernel_rfl)
              exact Or.inl ⟨.bool false, w', by go_simp, rfl, Below.refl _ _⟩
            refine AllOps.cons 24 rfl ?_ ?_
            · intro T w' hb hl hd
              have h0 : T.getD 28 undef = .bool false := hd 11 28 (by kernel_rfl)
              have h1 : T.getD 39 undef = .bool false := hd 22 39 (by kernel_rfl)
              exact Or.inl ⟨.bool false, w', by go_simp, rfl, Below.refl _ _⟩
            refine AllOps.cons 25 rfl ?_ ?_
            · intro T w' hb hl hd
              have h0 : T.getD 40 undef = .bool false := hd 23 40 (by kernel_rfl)
              exact Or.inl ⟨.bool false, w', by go_simp, rfl, Below.refl _ _⟩
            refine AllOps.cons 26 rfl ?_ ?_
            · intro T w' hb hl hd
              have h0 : T.getD 0 undef = .slice (some ⟨b1, o1, none⟩) n cap1 := hl 0 (by kernel_rfl)
              exact Or.inl ⟨.slice (some ⟨b1, o1, none⟩) n cap1, w', by go_simp, rfl, Below.refl _ _⟩
            refine AllOps.cons 27 rfl ?_ ?_
            · intro T w' hb hl hd
              have h0 : T.getD 5 undef = .int .i64 j := hl 5 (by kernel_rfl)
              exact Or.inl ⟨.int .i64 j, w', by go_simp, rfl, Below.refl _ _⟩
            refine AllOps.cons 28 rfl ?_ ?_
            · intro T w' hb hl hd
              have h0 : T.getD 42 undef = .slice (some ⟨b1, o1, none⟩) n cap1 := hd 25 42 (by kernel_rfl)
              have h1 : T.getD 43 undef = .int .i64 j := hd 26 43 (by kernel_rfl)
              exact Or.inl ⟨.pointer (some ⟨b1, o1 + j * 3, none⟩), w', by go_simp, rfl, Below.refl _ _⟩
            refine AllOps.cons 29 rfl ?_ ?_
            · intro T w' hb hl hd
              have h0 : T.getD 44 undef = .pointer (some ⟨b1, o1 + j * 3, none⟩) := hd 27 44 (by kernel_rfl)
              exact Or.inl ⟨.pointer (some ⟨b1, o1 + j * 3 + 2, none⟩), w', by go_simp, rfl, Below.refl _ _⟩
            refine AllOps.cons 30 rfl ?_ ?_
            · intro T w' hb hl hd
              have h0 : T.getD 45 undef = .pointer (some ⟨b1, o1 + j * 3 + 2, none⟩) := hd 28 45 (by kernel_rfl)
              have cc := cell_later hb C12.out
              exact Or.inl ⟨.slice x1 m k1, w', by go_simp, rfl, Below.refl _ _⟩
            refine AllOps.cons 31 rfl ?_ ?_
            · intro T w' hb hl hd
              have h0 : T.getD 1 undef = .slice (some ⟨b2, o2, none⟩) n cap2 := hl 1 (by kernel_rfl)
              exact Or.inl ⟨.slice (some ⟨b2, o2, none⟩) n cap2, w', by go_simp, rfl, Below.refl _ _⟩
            refine AllOps.cons 32 rfl ?_ ?_
            · intro T w' hb hl hd
              have h0 : T.getD 5 undef = .int .i64 j := hl 5 (by kernel_rfl)
              exact Or.inl ⟨.int .i64 j, w', by go_simp, rfl, Below.refl _ _⟩
            refine AllOps.cons 33 rfl ?_ ?_
            · intro T w' hb hl hd
              have h0 : T.getD 47 undef = .slice (some ⟨b2, o2, none⟩) n cap2 := hd 30 47 (by kernel_rfl)
              have h1 : T.getD 48 undef = .int .i64 j := hd 31 48 (by kernel_rfl)
              exact Or.inl ⟨.pointer (some ⟨b2, o2 + j * 3, none⟩), w', by go_simp, rfl, Below.refl _ _⟩
            refine AllOps.cons 34 rfl ?_ ?_
            · intro T w' hb hl hd
              have h0 : T.getD 49 undef = .pointer (some ⟨b2, o2 + j * 3, none⟩) := hd 32 49 (by kernel_rfl)
              exact Or.inl ⟨.pointer (some ⟨b2, o2 + j * 3 + 2, none⟩), w', by go_simp, rfl, Below.refl _ _⟩
            refine AllOps.cons 35 rfl ?_ ?_
            · intro T w' hb hl hd
              have h0 : T.getD 50 undef = .pointer (some ⟨b2, o2 + j * 3 + 2, none⟩) := hd 33 50 (by kernel_rfl)
              have cc := cell_later hb C22.out
              exact Or.inl ⟨.slice x2 m k2, w', by go_simp, rfl, Below.refl _ _⟩
            refine AllOps.cons 36 rfl ?_ ?_
            · intro T w' hb hl hd
              have h0 : T.getD 46 undef = .slice x1 m k1 := hd 29 46 (by kernel_rfl)
              have h1 : T.getD 51 undef = .slice x2 m k2 := hd 34 51 (by kernel_rfl)
              refine Or.inr ⟨25, #[.slice x1 m k1, .slice x2 m k2], by go_simp, ?_⟩
              refine (KP.out w' hb).mono ?_
              rintro e w'' ⟨rfl, hbb⟩
              exact ⟨_, rfl, rfl, below_of_drawn hbb⟩
            refine AllOps.cons 37 rfl ?_ ?_
            · intro T w' hb hl hd
              have h0 : T.getD 52 undef = .bool true := hd 35 52 (by kernel_rfl)
              exact Or.inl ⟨.bool false, w', by go_simp, rfl, Below.refl _ _⟩
            refine AllOps.cons 38 rfl ?_ ?_
            · intro T w' hb hl hd
              have h0 : T.getD 41 undef = .bool false := hd 24 41 (by kernel_rfl)
              have h1 : T.getD 53 undef = .bool false := hd 36 53 (by kernel_rfl)
              exact Or.inl ⟨.bool false, w', by go_simp, rfl, Below.refl _ _⟩
            exact trivial
          case hfin =>
            intro T w' hb hs hl hd
            have e54 : T.getD 54 undef = .bool false := hd 37 54 (by kernel_rfl)
            rw [lit_then [true, true, true, true, true, true, true, true, true, true, true, true, true, true, true, true, true, false, false, false, false, false, false, false, false, false, false, false, false, false, false, false, false, false, false, false, false, false, false, false, false, false, false, false, false, false, false, false, false, false, false, false, false, false, false] (by kernel_rfl) hs hl]
            obtain ⟨us, hus⟩ : ∃ us : Nat → Value, (fun d => T.getD d undef) = us := ⟨_, rfl⟩
            rw [hus]
            have f54 : us 54 = .bool false := by rw [← hus]; exact e54
            apply_assumption
            simp only [fillL]
            go_meet
            exact ⟨f54, hb⟩
        case rest =>
          obtain ⟨rfl, hb⟩ := hcut
          have HB9 := hid (below_from HBL.out hb)
          clear hb
          go_wp2
          go_roundw
          case rel => exact ⟨j + 1, by go_num, by omega, HB9.out⟩
          case measure => simp [intOf]; omega
      · obtain rfl : j = n := by omega
        go_wp2
        go_ret
        exact ⟨rfl, HBL.out⟩
  · obtain rfl : n = 0 := by omega
    clear h1 h2 he
    go_enter Tryd.func11, Tryd.ntmps11
    go_wp2
    go_loop [5] (fun s => s = .int .i64 0) (fun _ => 0)
    case atStart => rfl
    case round =>
      subst hrel
      go_wp2
      go_ret
      exact ⟨rfl, Below.refl _ _⟩
def TyB (w : World) (b : Nat) (t : TypeId) : Prop := ∃ cs fr, w.heap[b]? = some (.cells cs t fr)
theorem TyB.later {w w' : World} {b : Nat} {t : TypeId} (h : TyB w b t) (hb : Below w.heap.size w w') : TyB w' b t := by
  obtain ⟨cs, fr, h⟩ := h
  exact ⟨cs, fr, (hb.block b (Array.getElem?_eq_some_iff.1 h).1).trans h⟩
theorem TyB.away {w w' : World} {b : Nat} {t : TypeId} (h : TyB w b t) (hb : w'.heap[b]? = w.heap[b]?) : TyB w' b t := by
  obtain ⟨cs, fr, h⟩ := h
  exact ⟨cs, fr, hb.trans h⟩
theorem TyB.lt {w : World} {b : Nat} {t : TypeId} (h : TyB w b t) : b < w.heap.size := by
  obtain ⟨cs, fr, h⟩ := h
  exact (Array.getElem?_eq_some_iff.1 h).1
theorem quCells_app : ∀ a b : QL, quCells (a ++ b) = quCells a ++ quCells b
  | [], _ => rfl
  | x :: a, b => by
    show quCell x ++ quCells (a ++ b) = quCell x ++ quCells a ++ quCells b
    rw [quCells_app a b, List.append_assoc]
theorem qu_app {a b : QL} {i : Nat} (h : i < a.length) : qu (a ++ b) i = qu a i := by
  unfold qu
  rw [List.getD_eq_getElem?_getD, List.getD_eq_getElem?_getD, List.getElem?_append_left h]
theorem qu_end (a : QL) (x : Qu) : qu (a ++ [x]) a.length = x := by
  unfold qu
  simp
theorem infoQueue : (Tryd.prog.info? 41).map (fun i => (i.zero, i.size, i.bytes)) = some (some (.agg #[.string .empty, .int .i64 0, .slice none 0 0]), 3, 48) := by kernel_rfl
theorem own_put (w : World) (B : Nat) (v : Value) (lk : QL) (hO : OwnQs w B v lk) (X : Qu) (gL : Nat) (ty : TypeId) (hL : w.heap[gL]? = some (.cells #[.string X.name, .int .i64 X.parent, .slice X.ca X.cn X.cc] 41 (0, 0)))
    (hr : RunsIn w X.ca X.cn X.cc X.runs) (hs : X.name.size ≤ 9223372036854775807) (hf : 0 < X.cn → ∀ b off, X.ca = some ⟨b, off, none⟩ → v.ownBlock ≠ some b) (hlk : lk.length ≤ 99999) (hB : B ≤ w.heap.size) :
    ∃ v' w', (Builtin.append_ #[22, 22] ty #[v, .slice (some ⟨gL, 0, none⟩) 1 1]).run Tryd.prog w = .ok v' w' ∧ OwnQs w' B v' (lk ++ [X]) ∧ Below B w w' ∧ ∀ b, b < w.heap.size → v.ownBlock ≠ some b → w'.heap[b]? = w.heap[b]? := by
  obtain ⟨i0, hi, e⟩ := Option.map_eq_some_iff.1 infoQueue
  simp only [Prod.mk.injEq] at e
  obtain ⟨e1, e2, e3⟩ := e
  obtain ⟨g9, k9, w', h1, h2, h3, h4, h5⟩ := run_append_lies w 22 ty B 41 i0 _ 3 48 Tryd.underlying22 hi e1 e2 e3 (by rfl) (by omega) v lk.length (quCells lk) hO.row ⟨gL, 0, none⟩ 1 1 (quCell X) (by simp [quCell])
    (fun j u hu => by rw [Addr.add_lit, Nat.zero_add, cell_of_row w gL j _ _ _ hL]; simpa [quCell] using hu) (fun u hu => quCells_one [X] u (by simpa [quCells] using hu)) (by omega) (by simp only [maxLen]; omega) (by omega) hB w.heap.size rfl
  have hkeep : ∀ {a : Option Addr} {n cap : Nat} {l : RunL}, RunsIn w a n cap l → (0 < n → ∀ b off, a = some ⟨b, off, none⟩ → v.ownBlock ≠ some b) → RunsIn w' a n cap l := fun h hn => h.of_away fun hp b off e => h3.block b (h.lt hp e) (fun e2 => hn hp b off e e2.symm)
  have hg9 : ∀ b, b < w.heap.size → v.ownBlock ≠ some b → (Value.slice (some ⟨g9, 0, none⟩) (lk.length + 1) k9).ownBlock ≠ some b := fun b hb hv e => by
    have e : g9 = b := by simpa [Value.ownBlock] using e
    subst e
    rcases h4 with h | h
    · exact hv h
    · omega
  refine ⟨_, w', h1, ⟨?_, fun i hi => ?_, fun i hi => ?_, fun i hi => ?_⟩, (Below.refl B w).grown h3 hB (fun k e => (hO.row.lt k e).1), fun b hb hv => h3.block b hb (fun e => hv e.symm)⟩
  · rw [List.length_append, List.length_singleton, quCells_app]
    have : quCells [X] = quCell X := by simp [quCells]
    rw [this]
    exact h2
  · by_cases e : i < lk.length
    · rw [qu_app e]; exact hkeep (hO.caps i e) (hO.far i e)
    · obtain rfl : i = lk.length := by simp at hi; omega
      rw [qu_end]; exact hkeep hr hf
  · by_cases e : i < lk.length
    · rw [qu_app e]
      exact fun hp b off e2 => hg9 b ((hO.caps i e).lt hp e2) (hO.far i e hp b off e2)
    · obtain rfl : i = lk.length := by simp at hi; omega
      rw [qu_end]
      exact fun hp b off e2 => hg9 b (hr.lt hp e2) (hf hp b off e2)
  · by_cases e : i < lk.length
    · rw [qu_app e]; exact hO.names i e
    · obtain rfl : i = lk.length := by simp at hi; omega
      rw [qu_end]; exact hs
theorem OwnInts.far {w : World} {B : Nat} {v : Value} {l : List Int} (h : OwnInts w B v l) (hp : 0 < l.length) : ∃ g cap, v = .slice (some ⟨g, 0, none⟩) l.length cap ∧ B ≤ g ∧ g < w.heap.size ∧ l.length ≤ cap ∧ cap ≤ 9223372036854775807 ∧ ∀ i, i < l.length → w.cell? ⟨g, i, none⟩ = some (.int .i64 (l.getD i 0)) := by
  have h' := h
  rcases h'.2 with ⟨hv, hn⟩ | ⟨g, cap, cur, hv, hg, hh, hle, hcap, hs, ht⟩
  · omega
  · subst hv
    refine ⟨g, cap, rfl, hg, (Array.getElem?_eq_some_iff.1 hh).1, hle, hcap, fun i hi => ?_⟩
    refine (World.ownsRow.cellAt h i (by omega)).trans ?_
    simp [List.getElem?_eq_getElem hi]
theorem within_any (n lo hi : Int) (w : World) : Calls Tryd.prog 16 #[.int .i64 n, .int .i64 lo, .int .i64 hi] w fun e w' => e = .returned (.bool (wth n lo hi)) ∧ w' = w := by
  go_enter Tryd.func16, Tryd.ntmps16
  go_wp2
  all_goals
    go_ret
    exact ⟨ret_bool (by simp [wth]; omega), rfl⟩
theorem isTime_any (n : Int) (w : World) : Calls Tryd.prog 48 #[.int .i64 n] w fun e w' => e = .returned (.bool (wth n 0 47)) ∧ w' = w := by
  go_enter Tryd.func48, Tryd.ntmps48
  go_wp2_with (go_at_call 16; refine (within_any _ _ _ _).mono ?_; rintro e w' ⟨rfl, rfl⟩)
  go_ret
  exact ⟨rfl, rfl⟩
set_option maxHeartbeats 800000 in
theorem RunsFine_some (w : World) (b off n cap : Nat) (l : RunL) (h : RunsIn w (some ⟨b, off, none⟩) n cap l) (hp : 0 < n) :
   Calls Tryd.prog 35 #[.slice (some ⟨b, off, none⟩) n cap] w fun e w' => e = .returned (.bool (fine l)) ∧ ∃ d, w' = w.drewN d := by
  obtain ⟨hn, hle, hb, hcb, hc⟩ := h
  have HN : Hid (n = l.length) := hn
  clear hn
  obtain ⟨b', off', e, hc⟩ := hc (by omega)
  cases e
  have hp' : (0 : Int) < n := by omega
  go_enter Tryd.func35, Tryd.ntmps35
  go_wp2
  go_loopw [3] (fun s wr => ∃ j : Nat, s = .int .i64 j ∧ j ≤ n ∧ (∀ i, i < j → okAt l i) ∧ ∃ d, wr = w.drewN d) (fun s _ => n - (intOf s).toNat)
  case atStart => exact ⟨0, rfl, by omega, fun i hi => by omega, 0, rfl⟩
  case round =>
    obtain ⟨j, rfl, h1, h2, hd⟩ := hrel
    have H2 : Hid (∀ i, i < j → okAt l i) := h2
    have HD : Hid (∃ d, wr = w.drewN d) := hd
    clear h2
    have hcr : ∀ a, wr.cell? a = w.cell? a := by obtain ⟨d, rfl⟩ := hd; exact fun a => rfl
    clear hd
    by_cases hj : j < n
    · have hj' : (j : Int) < n := by omega
      have c0 : wr.cell? ⟨b, off + j * 2, none⟩ = some (.int .i64 (rAt l j)) := (hcr _).trans (hc j hj).1
      have c1 : wr.cell? ⟨b, off + j * 2 + 1, none⟩ = some (.int .i64 (rN l j)) := (hcr _).trans (hc j hj).2
      cases g1 : wth (rAt l j) 0 47 with
      | false =>
        clear hcr hc
        go_wp2
        go_quiet ((first | (go_at_call 48; exact Calls.quiet_of_same (isTime_any _ _)) | (go_at_call 16; exact Calls.quiet_of_same (within_any _ _ _ _))))
        go_wp2
        go_ret
        exact ⟨ret_bool (fine_bad HN hj (time_bad H2 g1)).symm, drawn_more HD _⟩
      | true =>
        cases g2 : bdd (rN l j) with
        | false =>
          have g2' : wth (rN l j) (-1048576) 1048576 = false := g2
          clear hcr hc
          go_wp2
          go_quiet ((first | (go_at_call 48; exact Calls.quiet_of_same (isTime_any _ _)) | (go_at_call 16; exact Calls.quiet_of_same (within_any _ _ _ _))))
          go_wp2
          go_ret
          exact ⟨ret_bool (fine_bad HN hj (fun h => by have := h.2.2.1; simp [g2] at this)).symm, drawn_more HD _⟩
        | true =>
          have g2' : wth (rN l j) (-1048576) 1048576 = true := g2
          cases j with
          | zero =>
            simp only [Nat.zero_mul, Nat.add_zero] at c0 c1
            clear hcr hc
            by_cases h0 : rAt l 0 = 0
            · have h0' : (rAt l 0 != 0) = false := by simp [h0]
              have H0 : Hid (rAt l 0 = 0) := h0
              clear h0
              go_wp2
              go_quiet ((first | (go_at_call 48; exact Calls.quiet_of_same (isTime_any _ _)) | (go_at_call 16; exact Calls.quiet_of_same (within_any _ _ _ _))))
              go_wp2
              go_roundw
              case rel => exact ⟨1, rfl, by omega, ok_snoc H2 ⟨fun _ => H0.out, by rw [H0.out]; decide, g2, fun h => by omega⟩, drawn_more HD _⟩
              case measure => simp [intOf]; omega
            · have h0' : (rAt l 0 != 0) = true := by simp [h0]
              go_wp2
              go_quiet ((first | (go_at_call 48; exact Calls.quiet_of_same (isTime_any _ _)) | (go_at_call 16; exact Calls.quiet_of_same (within_any _ _ _ _))))
              go_wp2
              go_ret
              exact ⟨ret_bool (fine_bad HN hj (fun h => h0 (h.1 rfl))).symm, drawn_more HD _⟩
          | succ k =>
            have g3 : decide ((0 : Int) < ↑k + 1) = true := by simp
            have g3' : (((k : Int) + 1) == 0) = false := beq_eq_false_iff_ne.2 (by omega)
            have hk' : (k : Int) < n := by omega
            have hwk : IntKind.i64.wrap (k : Int) = k := by rw [IntKind.wrap_i64]; omega
            have d0 : wr.cell? ⟨b, off + k * 2, none⟩ = some (.int .i64 (rAt l k)) := (hcr _).trans (hc k (by omega)).1
            have d1 : wr.cell? ⟨b, off + k * 2 + 1, none⟩ = some (.int .i64 (rN l k)) := (hcr _).trans (hc k (by omega)).2
            clear hcr hc
            by_cases g4 : rAt l (k + 1) ≤ rAt l k
            · have g4' : decide (rAt l (k + 1) ≤ rAt l k) = true := by simpa using g4
              go_wp2
              go_quiet ((first | (go_at_call 48; exact Calls.quiet_of_same (isTime_any _ _)) | (go_at_call 16; exact Calls.quiet_of_same (within_any _ _ _ _))))
              go_wp2
              go_ret
              exact ⟨ret_bool (fine_bad HN hj (fun h => by have := (h.2.2.2 (by omega)).1; simp only [Nat.add_sub_cancel] at this; omega)).symm, drawn_more HD _⟩
            · have g4' : decide (rAt l (k + 1) ≤ rAt l k) = false := by simpa using g4
              go_wp2
              go_quiet ((first | (go_at_call 48; exact Calls.quiet_of_same (isTime_any _ _)) | (go_at_call 16; exact Calls.quiet_of_same (within_any _ _ _ _))))
              go_wp2
              · have g5 : (rN l k == rN l (k + 1)) = true := by assumption
                go_ret
                exact ⟨ret_bool (fine_bad HN hj (fun h => by have := (h.2.2.2 (by omega)).2; simp only [Nat.add_sub_cancel] at this; exact this (eq_of_beq g5).symm)).symm, drawn_more HD _⟩
              · have g5 : (rN l k == rN l (k + 1)) = false := by assumption
                go_roundw
                case rel => exact ⟨k + 1 + 1, by go_num, by omega, ok_snoc H2 ⟨fun h => by omega, (of_decide_eq_true g1).2 |> fun h => by omega, g2, fun _ => ⟨by simp only [Nat.add_sub_cancel]; omega, by simp only [Nat.add_sub_cancel]; exact (ne_of_beq_false g5).symm⟩⟩, drawn_more HD _⟩
                case measure => simp [intOf]; omega
    · have hj' : ¬ (j : Int) < n := by omega
      obtain rfl : j = n := by omega
      clear hcr hc
      go_wp2
      go_ret
      exact ⟨ret_bool (by rw [fine_good HN hp H2.out]), HD.out⟩
theorem RunsFine_none (w : World) (a : Option Addr) (cap : Nat) :
   Calls Tryd.prog 35 #[.slice a 0 cap] w fun e w' => e = .returned (.bool (fine [])) ∧ w' = w := by
  go_enter Tryd.func35, Tryd.ntmps35
  go_wp2
  go_loop [3] (fun s => s = .int .i64 0) (fun _ => 0)
  case atStart => rfl
  case round =>
    subst hrel
    go_wp2
    go_ret
    exact ⟨ret_bool (by rfl), rfl⟩
theorem RunsFine_any (w : World) (a : Option Addr) (n cap : Nat) (l : RunL) (h : RunsIn w a n cap l) :
   Calls Tryd.prog 35 #[.slice a n cap] w fun e w' => e = .returned (.bool (fine l)) ∧ ∃ d, w' = w.drewN d := by
  by_cases hp : 0 < n
  · obtain ⟨b, off, rfl, _⟩ := h.cells hp
    exact RunsFine_some w b off n cap l h hp
  · obtain rfl : n = 0 := by omega
    obtain rfl : l = [] := by have := h.len; exact List.eq_nil_of_length_eq_zero this.symm
    refine (RunsFine_none w a cap).mono ?_
    rintro e w' ⟨rfl, rfl⟩
    exact ⟨rfl, 0, rfl⟩
theorem IsName_any (s : ByteArray) (w : World) (hs : s.size ≤ 9223372036854775807) : Calls Tryd.prog 17 #[.string s] w fun e w' => e = .returned (.bool (isName s)) ∧ w' = w := by
  go_enter Tryd.func17, Tryd.ntmps17
  go_wp2
  go_loop [3] (fun st => ∃ k : Nat, st = .int .i64 k ∧ k ≤ s.size ∧ azTo s k = true) (fun st => s.size - (intOf st).toNat)
  case atStart => exact ⟨0, rfl, by omega, rfl⟩
  case round =>
    obtain ⟨k, rfl, hk, haz⟩ := hrel
    have HA : Hid (azTo s k = true) := haz
    clear haz
    by_cases hlt : k < s.size
    · have hlt' : (k : Int) < s.size := by omega
      by_cases g1 : (s[k].toNat : Int) < 97
      · have AZ : Hid (azB (byteAt s k) = false) := az_low hlt g1
        go_wp2
        go_ret
        exact ⟨ret_bool (name_bad hlt AZ.out).symm, rfl⟩
      by_cases g2 : (122 : Int) < s[k].toNat
      · have AZ : Hid (azB (byteAt s k) = false) := az_high hlt g2
        go_wp2
        go_ret
        exact ⟨ret_bool (name_bad hlt AZ.out).symm, rfl⟩
      · have AZ : Hid (azB (byteAt s k) = true) := az_mid hlt g1 g2
        go_wp2
        go_round
        case rel => exact ⟨k + 1, by go_num, by omega, by rw [azTo, HA.out, AZ.out]; rfl⟩
        case measure => simp [intOf]; omega
    · obtain rfl : k = s.size := by omega
      have e : Hid (wth (s.size : Int) 1 8 = isName s) := by
        show wth (s.size : Int) 1 8 = isName s
        rw [isName, HA.out, wth, Bool.eq_iff_iff]
        simp
        omega
      go_wp2_with (go_at_call 16; refine (within_any _ _ _ _).mono ?_; rintro e w' ⟨rfl, rfl⟩)
      go_ret
      exact ⟨ret_bool e.out, rfl⟩
set_option maxHeartbeats 400000 in
theorem CapFine_some (w : World) (b off n cap : Nat) (l : RunL) (h : RunsIn w (some ⟨b, off, none⟩) n cap l) (hp : 0 < n) :
    Calls Tryd.prog 18 #[.slice (some ⟨b, off, none⟩) n cap] w fun e w' => e = .returned (.bool (capFine l)) ∧ Below w.heap.size w w' := by
  have HN := hid h.len
  have hle := h.le
  have hbd := h.bound
  obtain ⟨b', off', e, hc⟩ := h.cells hp
  cases e
  have HC := hid hc
  clear hc
  go_enter Tryd.func18, Tryd.ntmps18
  go_wp2
  go_loop [3] (fun st => ∃ k : Nat, st = .int .i64 k ∧ k ≤ n ∧ capTo l k = true) (fun st => n - (intOf st).toNat)
  case atStart => exact ⟨0, rfl, by omega, rfl⟩
  case round =>
    obtain ⟨k, rfl, hk, hcap⟩ := hrel
    have HA := hid hcap
    clear hcap
    by_cases hlt : k < n
    · have hlt' : (k : Int) < n := by omega
      have c1 := (HC.out k hlt).2
      cases g : capOk (rN l k) with
      | false =>
        have g' : wth (rN l k) 0 50 = false := g
        go_wp2_with (go_at_call 16; refine (within_any _ _ _ _).mono ?_; rintro e w' ⟨rfl, rfl⟩; rw [g'])
        go_ret
        exact ⟨ret_bool (by rw [capFine, ← HN.out, capTo_false g n hlt]; simp), Below.refl _ _⟩
      | true =>
        have g' : wth (rN l k) 0 50 = true := g
        go_wp2_with (go_at_call 16; refine (within_any _ _ _ _).mono ?_; rintro e w' ⟨rfl, hw'⟩; rw [hw', g'])
        go_round
        case rel => exact ⟨k + 1, by go_num, by omega, by rw [capTo, HA.out, g]; rfl⟩
        case measure => simp [intOf]; omega
    · obtain rfl : k = n := by omega
      go_wp2_with fail
      refine (RunsFine_any w _ _ _ l h).mono ?_
      rintro e w1 ⟨rfl, hb⟩
      have HB := hid (below_of_drawn hb)
      clear hb
      go_wp2
      go_ret
      exact ⟨ret_bool (by rw [capFine, ← HN.out, HA.out]; simp), HB.out⟩
theorem CapFine_any (w : World) (a : Option Addr) (n cap : Nat) (l : RunL) (h : RunsIn w a n cap l) :
    Calls Tryd.prog 18 #[.slice a n cap] w fun e w' => e = .returned (.bool (capFine l)) ∧ Below w.heap.size w w' := by
  by_cases hp : 0 < n
  · obtain ⟨b, off, rfl, _⟩ := h.cells hp
    exact CapFine_some w b off n cap l h hp
  · obtain rfl : n = 0 := by omega
    have HL := hid h
    obtain rfl : l = [] := List.eq_nil_of_length_eq_zero h.len.symm
    go_enter Tryd.func18, Tryd.ntmps18
    go_wp2
    go_loop [3] (fun st => st = .int .i64 0) (fun _ => 0)
    case atStart => rfl
    case round =>
      subst hrel
      go_wp2_with fail
      refine (RunsFine_any w _ _ _ [] HL.out).mono ?_
      rintro e w1 ⟨rfl, hb⟩
      have HB := hid (below_of_drawn hb)
      clear hb
      go_wp2
      go_ret
      exact ⟨ret_bool (by rfl), HB.out⟩
set_option maxHeartbeats 2000000 in
theorem CheckTree_any (w : World) (a : Option Addr) (n cap : Nat) (l : QL) (h : QsIn w a n cap l) :
    Calls Tryd.prog 6 #[.slice a n cap] w fun e w' => e = .returned (.int .i64 (chkT l)) ∧ Below w.heap.size w w' := by
  have hn := h.len
  have hcb := h.capb
  have hle := h.le
  cases hw : wth l.length 1 5 with
  | false =>
    have hr : chkT l = 2 := by simp [chkT, hw]
    rw [hr]
    rw [← hn] at hw
    have HN := hid hn
    clear hn
    go_enter Tryd.func6, Tryd.ntmps6
    go_wp2_with (go_at_call 16; refine (within_any _ _ _ _).mono ?_; rintro e w' ⟨rfl, rfl⟩; rw [hw])
    go_ret
    exact ⟨rfl, Below.refl _ _⟩
  | true =>
    have HW := hid hw
    rw [← hn] at hw
    have hw' := of_decide_eq_true hw
    have hp : 0 < n := by omega
    have h5 : n ≤ 5 := by omega
    have HN := hid hn
    clear hn hw'
    obtain ⟨b, off, rfl, hc⟩ := h.cells hp
    have HC := hid hc
    clear hc
    go_enter Tryd.func6, Tryd.ntmps6
    go_wp2_with (go_at_call 16; refine (within_any _ _ _ _).mono ?_; rintro e w' ⟨rfl, hw'⟩; rw [hw', hw])
    go_loop [3] (fun st => ∃ k : Nat, st = .int .i64 k ∧ k ≤ n ∧ allQ (fun q => isName q.name) l k = true) (fun st => n - (intOf st).toNat)
    case atStart => exact ⟨0, rfl, by omega, rfl⟩
    case round =>
      obtain ⟨k, rfl, hk, hall⟩ := hrel
      have HA := hid hall
      clear hall
      by_cases hlt : k < n
      · have hlt' : (k : Int) < n := by omega
        have c0 := (HC.out k hlt).1
        cases g : isName (qu l k).name with
        | false =>
          go_wp2_with fail
          refine (IsName_any _ w (h.names k hlt)).mono ?_
          rintro e w' ⟨rfl, hw2⟩
          rw [hw2, g]
          go_wp2
          go_ret
          exact ⟨ret_int (chkT_4 HW.out (by rw [namesOk, ← HN.out]; exact allQ_false (p := fun q => isName q.name) g n hlt)).symm, Below.refl _ _⟩
        | true =>
          go_wp2_with fail
          refine (IsName_any _ w (h.names k hlt)).mono ?_
          rintro e w' ⟨rfl, hw2⟩
          rw [hw2, g]
          go_wp2
          go_round
          case rel => exact ⟨k + 1, by go_num, by omega, by rw [allQ, HA.out, g]; rfl⟩
          case measure => simp [intOf]; omega
      · obtain rfl : n = k := by omega
        have C1 : Hid (namesOk l = true) := by show namesOk l = true; rw [namesOk, ← HN.out]; exact HA.out
        clear HA
        go_wp2_with fail
        go_loopw [4, 5] (fun st _ wr => ∃ j : Nat, st = .int .i64 j ∧ j ≤ n ∧ nodupTo l j = true ∧ ∃ d, wr = w.drewN d) (fun st _ _ => n - (intOf st).toNat)
        case atStart => exact ⟨0, rfl, by omega, rfl, 0, rfl⟩
        case round =>
          obtain ⟨j, rfl, hj, hall, hd⟩ := hrel
          have HA := hid hall
          have HD := hid hd
          clear hall hd
          by_cases hlt : j < n
          · have hlt' : (j : Int) < n := by omega
            obtain ⟨wo, hwo⟩ : ∃ wo : World, wo = wr := ⟨_, rfl⟩
            rw [← hwo] at HD
            rw [← hwo]
            clear hwo wr
            go_wp2_with fail
            go_loopw [5] (fun st wr => ∃ i : Nat, st = .int .i64 i ∧ i ≤ j ∧ sameBefore l j i = false ∧ ∃ d, wr = w.drewN d) (fun st _ => j - (intOf st).toNat)
            case atStart => exact ⟨0, rfl, by omega, rfl, HD.out⟩
            case round =>
              obtain ⟨i, rfl, hi, hno, hd⟩ := hrel
              have HI := hid hno
              have HD2 := hid hd
              clear hno
              have hcr : ∀ a, wr.cell? a = w.cell? a := by obtain ⟨d, rfl⟩ := hd; exact fun a => rfl
              clear hd
              by_cases hil : i < j
              · have hil' : (i : Int) < j := by omega
                have hin' : (i : Int) < n := by omega
                have c0 := (hcr _).trans (HC.out i (by omega)).1
                have c1 := (hcr _).trans (HC.out j hlt).1
                clear hcr
                cases g : (nm l i == nm l j) with
                | true =>
                  have g' : ((qu l i).name.toList == (qu l j).name.toList) = true := by rw [ByteArray.toList_eq, ByteArray.toList_eq]; exact g
                  go_wp2
                  go_quiet (fail)
                  go_wp2
                  go_ret
                  exact ⟨ret_int (chkT_5 HW.out C1.out (by rw [← HN.out]; exact nodupTo_false (sameBefore_at hil g) n hlt)).symm, _root_.Go.below_drewN (below_of_drawn HD2.out) _⟩
                | false =>
                  have g' : ((qu l i).name.toList == (qu l j).name.toList) = false := by rw [ByteArray.toList_eq, ByteArray.toList_eq]; exact g
                  go_wp2
                  go_quiet (fail)
                  go_wp2
                  go_roundw
                  case rel => exact ⟨i + 1, by go_num, by omega, by rw [sameBefore, HI.out, g]; rfl, drawn_more HD2 _⟩
                  case measure => simp [intOf]; omega
              · obtain rfl : j = i := by omega
                clear hcr
                go_wp2
                go_roundw
                case rel => exact ⟨j + 1, by go_num, by omega, by rw [nodupTo, HA.out, HI.out]; rfl, HD2.out⟩
                case measure => simp [intOf]; omega
          · obtain rfl : n = j := by omega
            have C2 : Hid (nodupTo l l.length = true) := by show nodupTo l l.length = true; rw [← HN.out]; exact HA.out
            have hcr : ∀ a, wr.cell? a = w.cell? a := by obtain ⟨d, rfl⟩ := HD.out; exact fun a => rfl
            obtain ⟨wo, hwo⟩ : ∃ wo : World, wo = wr := ⟨_, rfl⟩
            rw [← hwo] at HD hcr
            rw [← hwo]
            have HCO : Hid (∀ i, i < n → wo.cell? ⟨b, off + i * 3, none⟩ = some (.string (qu l i).name) ∧ wo.cell? ⟨b, off + i * 3 + 1, none⟩ = some (.int .i64 (qu l i).parent) ∧ wo.cell? ⟨b, off + i * 3 + 2, none⟩ = some (.slice (qu l i).ca (qu l i).cn (qu l i).cc)) := fun i hi => ⟨(hcr _).trans (HC.out i hi).1, (hcr _).trans (HC.out i hi).2.1, (hcr _).trans (HC.out i hi).2.2⟩
            clear hwo hcr wr HA
            go_wp2_with fail
            go_loop [6] (fun st => ∃ k : Nat, st = .int .i64 k ∧ k ≤ n ∧ parTo l k = true) (fun st => n - (intOf st).toNat)
            case atStart => exact ⟨0, rfl, by omega, rfl⟩
            case round =>
              obtain ⟨k, rfl, hk, hall⟩ := hrel
              have HA := hid hall
              clear hall
              by_cases hlt : k < n
              · have hlt' : (k : Int) < n := by omega
                have c0 := (HCO.out k hlt).2.1
                have hwe : Hid (wth (qu l k).parent (-1) ((k : Int) - 1) = decide (-1 ≤ (qu l k).parent ∧ (qu l k).parent < k)) := by
                  show wth (qu l k).parent (-1) ((k : Int) - 1) = decide (-1 ≤ (qu l k).parent ∧ (qu l k).parent < k)
                  rw [wth, Bool.eq_iff_iff]; simp; omega
                cases g : decide (-1 ≤ (qu l k).parent ∧ (qu l k).parent < k) with
                | false =>
                  go_wp2_with fail
                  refine (within_any _ _ _ _).mono ?_
                  rintro e w' ⟨rfl, hw2⟩
                  rw [hw2, hwe.out, g]
                  go_wp2
                  go_ret
                  exact ⟨ret_int (chkT_3 HW.out C1.out C2.out (by rw [← HN.out]; exact parTo_false (of_decide_eq_false g) n hlt)).symm, below_of_drawn HD.out⟩
                | true =>
                  go_wp2_with fail
                  refine (within_any _ _ _ _).mono ?_
                  rintro e w' ⟨rfl, hw2⟩
                  rw [hw2, hwe.out, g]
                  go_wp2
                  go_round
                  case rel => exact ⟨k + 1, by go_num, by omega, by rw [parTo, HA.out, g]; rfl⟩
                  case measure => simp [intOf]; omega
              · obtain rfl : n = k := by omega
                have C3 : Hid (parTo l l.length = true) := by show parTo l l.length = true; rw [← HN.out]; exact HA.out
                clear HA
                go_wp2_with fail
                go_loopw [7] (fun st wr => ∃ k : Nat, st = .int .i64 k ∧ k ≤ n ∧ allQ (fun q => capFine q.runs) l k = true ∧ Below wo.heap.size wo wr) (fun st _ => n - (intOf st).toNat)
                case atStart => exact ⟨0, rfl, by omega, rfl, Below.refl _ _⟩
                case round =>
                  obtain ⟨k, rfl, hk, hall, hbel⟩ := hrel
                  have HA := hid hall
                  have HB := hid hbel
                  clear hall hbel
                  by_cases hlt : k < n
                  · have hlt' : (k : Int) < n := by omega
                    have c0 := cell_later HB.out (HCO.out k hlt).2.2
                    have hR := hid (((h.caps k hlt).later (below_of_drawn HD.out)).later HB.out)
                    cases g : capFine (qu l k).runs with
                    | false =>
                      go_wp2_with fail
                      refine (CapFine_any _ _ _ _ _ hR.out).mono ?_
                      rintro e w' ⟨rfl, hb2⟩
                      rw [g]
                      go_wp2
                      go_ret
                      exact ⟨ret_int (chkT_1 HW.out C1.out C2.out C3.out (by rw [capsOk, ← HN.out]; exact allQ_false (p := fun q => capFine q.runs) g n hlt)).symm, below_from (below_from (below_of_drawn HD.out) HB.out) hb2⟩
                    | true =>
                      go_wp2_with fail
                      refine (CapFine_any _ _ _ _ _ hR.out).mono ?_
                      rintro e w' ⟨rfl, hb2⟩
                      have HB2 := hid hb2
                      clear hb2
                      rw [g]
                      go_wp2
                      go_roundw
                      case rel => exact ⟨k + 1, by go_num, by omega, by rw [allQ, HA.out, g]; rfl, below_from HB.out HB2.out⟩
                      case measure => simp [intOf]; omega
                  · obtain rfl : n = k := by omega
                    go_wp2
                    go_ret
                    exact ⟨ret_int (chkT_0 HW.out C1.out C2.out C3.out (by rw [capsOk, ← HN.out]; exact HA.out)).symm, below_from (below_of_drawn HD.out) HB.out⟩
end Go.Proofs.YtckpdfkobdgjeaaDoor
