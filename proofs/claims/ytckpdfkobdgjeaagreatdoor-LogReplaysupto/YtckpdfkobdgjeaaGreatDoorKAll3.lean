/- Several texts in one: Frame, FrameQ, FrameR, FrameB, BkA, FreshA, FreshB, PlanA, AnyC, FreshC, AnyS. -/
import Derived.Test.YtckpdfkobdgjeaaGreatDoorKAll0
import Derived.Test.YtckpdfkobdgjeaaGreatDoorRows
import Derived.ProofKit
import Derived.OpenShut
import Derived.ShutString
import Derived.ChangeOld
import Derived.Below
import Derived.Deep.SlicePairs
import Derived.Test.YtckpdfkobdgjeaaGreatDoorKTreeAll
import Derived.Deep.Slices
import Derived.Deep.Strs
import Derived.Test.YtckpdfkobdgjeaaGreatDoorKReqAll
import Derived.Test.YtckpdfkobdgjeaaGreatDoorKLoadAll
import Derived.Test.YtckpdfkobdgjeaaGreatDoorKAll2
import Derived.Lib.SliceRun
import Derived.Test.YtckpdfkobdgjeaaGreatDoorKPlaceAll
import Derived.Test.YtckpdfkobdgjeaaGreatDoorKAll1
import Derived.Deep.DeepCutAuto
namespace Go.Proofs.YtckpdfkobdgjeaaGreatDoor
open Go.ChangeShapes Go.WideShapes Go.ChangeAt Go.RowKit
theorem own : ownKnob Tryz.prog.godebug = none := by kernel_rfl
theorem laidOut : laidOutB Tryz.prog = true := by kernel_rfl
theorem addr_add (b off j : Nat) : (⟨b, off, none⟩ : Addr).add j = ⟨b, off + j, none⟩ := by unfold Addr.add; split <;> simp_all
theorem rAt_range (V0 V1 : Nat → Value) (n i : Nat) (h : i < n) : rAt ((List.range n).map fun i => (intOf (V0 i), intOf (V1 i))) i = intOf (V0 i) ∧ rN ((List.range n).map fun i => (intOf (V0 i), intOf (V1 i))) i = intOf (V1 i) := by
  simp [rAt, rN, List.getD, h]
theorem runs_open {H : Type} {enc : TypeId × Value → H} {W : World} {base : Nat} {spare : Nat → Bool} {held : Bool} {fuel : Nat} {cs : List Value} {a : Option Addr} {len cap : Nat} {x : DataW H × List MemPlace}
    (hcs : cs = [.slice a len cap]) (hf : DataW.trod enc Tryz.prog W base spare held fuel 25 cs = some x) : ∃ l, RunsIn W a len cap l := by
  rcases Go.Deep.open_slice_pairs Tryz.underlying25 Tryz.underlying55 (by kernel_rfl) rfl rfl (by kernel_rfl) (by kernel_rfl) hf with ⟨h, _⟩ | ⟨ad, len', cap', m, n, V0, V1, D0, D1, P0, P1, h, _, hl, hm, hmm, _, hc⟩
  · rw [hcs] at h
    simp at h
    obtain ⟨rfl, rfl, rfl⟩ := h
    exact ⟨[], rfl, Nat.le_refl _, by simp, by simp, fun h => by simp at h⟩
  · rw [hcs] at h
    simp at h
    obtain ⟨rfl, rfl, rfl⟩ := h
    have hlm : len ≤ m := by rw [hmm]; split <;> omega
    simp only [maxLen] at hm
    refine ⟨(List.range len).map fun i => (intOf (V0 i), intOf (V1 i)), by simp, hl, by omega, hm, fun hp => ?_⟩
    obtain ⟨b, off, spot⟩ := ad
    have hs : spot = none := by
      have := World.cell?_spot (hc 0 (by omega)).1
      simpa [Addr.add] using this
    subst hs
    refine ⟨b, off, rfl, fun i hi => ?_⟩
    obtain ⟨c0, c1, t0, t1⟩ := hc i (by omega)
    obtain ⟨p, hp0, _, _⟩ := DataW.trod_int Tryz.underlying3 t0
    obtain ⟨q, hq0, _, _⟩ := DataW.trod_int Tryz.underlying3 t1
    simp at hp0 hq0
    obtain ⟨r1, r2⟩ := rAt_range V0 V1 len i hi
    rw [r1, r2, hp0, hq0]
    rw [hp0] at c0
    rw [hq0] at c1
    rw [addr_add] at c0 c1
    exact ⟨c0, c1⟩
end Go.Proofs.YtckpdfkobdgjeaaGreatDoor
namespace Go.Proofs.YtckpdfkobdgjeaaGreatDoor
open Go.ChangeShapes Go.WideShapes Go.ChangeAt Go.RowKit
theorem runs_open_any {H : Type} {enc : TypeId × Value → H} {W : World} {base : Nat} {spare : Nat → Bool} {held : Bool} {fuel : Nat} {cs : List Value} {x : DataW H × List MemPlace}
    (hf : DataW.trod enc Tryz.prog W base spare held fuel 25 cs = some x) : ∃ a len cap l, cs = [.slice a len cap] ∧ RunsIn W a len cap l := by
  have hx : ∃ a len cap, cs = [.slice a len cap] := by
    rcases Go.Deep.open_slice Tryz.underlying25 hf with ⟨h, _⟩ | ⟨a, len, cap, _, _, _, _, h, _⟩
    · exact ⟨none, 0, 0, h⟩
    · exact ⟨some a, len, cap, h⟩
  obtain ⟨a, len, cap, h⟩ := hx
  obtain ⟨l, hl⟩ := runs_open h hf
  exact ⟨a, len, cap, l, h, hl⟩
end Go.Proofs.YtckpdfkobdgjeaaGreatDoor
namespace Go.Proofs.YtckpdfkobdgjeaaGreatDoor
open Go.ChangeShapes Go.WideShapes Go.ChangeAt Go.RowKit
theorem pieces_open {H : Type} {enc : TypeId × Value → H} {W : World} {base : Nat} {spare : Nat → Bool} {held : Bool} {fuel : Nat} {cs : List Value} {a : Option Addr} {len cap : Nat} {x : DataW H × List MemPlace}
    (hcs : cs = [.slice a len cap]) (hf : DataW.trod enc Tryz.prog W base spare held fuel 22 cs = some x) : ∃ l, RunsIn W a len cap l := by
  rcases Go.Deep.open_slice_pairs Tryz.underlying22 Tryz.underlying64 (by kernel_rfl) rfl rfl (by kernel_rfl) (by kernel_rfl) hf with ⟨h, _⟩ | ⟨ad, len', cap', m, n, V0, V1, D0, D1, P0, P1, h, _, hl, hm, hmm, _, hc⟩
  · rw [hcs] at h
    simp at h
    obtain ⟨rfl, rfl, rfl⟩ := h
    exact ⟨[], rfl, Nat.le_refl _, by simp, by simp, fun h => by simp at h⟩
  · rw [hcs] at h
    simp at h
    obtain ⟨rfl, rfl, rfl⟩ := h
    have hlm : len ≤ m := by rw [hmm]; split <;> omega
    simp only [maxLen] at hm
    refine ⟨(List.range len).map fun i => (intOf (V0 i), intOf (V1 i)), by simp, hl, by omega, hm, fun hp => ?_⟩
    obtain ⟨b, off, spot⟩ := ad
    have hs : spot = none := by
      have := World.cell?_spot (hc 0 (by omega)).1
      simpa [Addr.add] using this
    subst hs
    refine ⟨b, off, rfl, fun i hi => ?_⟩
    obtain ⟨c0, c1, t0, t1⟩ := hc i (by omega)
    obtain ⟨p, hp0, _, _⟩ := DataW.trod_int Tryz.underlying3 t0
    obtain ⟨q, hq0, _, _⟩ := DataW.trod_int Tryz.underlying3 t1
    simp at hp0 hq0
    obtain ⟨r1, r2⟩ := rAt_range V0 V1 len i hi
    rw [r1, r2, hp0, hq0]
    rw [hp0] at c0
    rw [hq0] at c1
    rw [addr_add] at c0 c1
    exact ⟨c0, c1⟩
theorem pieces_open_any {H : Type} {enc : TypeId × Value → H} {W : World} {base : Nat} {spare : Nat → Bool} {held : Bool} {fuel : Nat} {cs : List Value} {x : DataW H × List MemPlace}
    (hf : DataW.trod enc Tryz.prog W base spare held fuel 22 cs = some x) : ∃ a len cap l, cs = [.slice a len cap] ∧ RunsIn W a len cap l := by
  have hx : ∃ a len cap, cs = [.slice a len cap] := by
    rcases Go.Deep.open_slice Tryz.underlying22 hf with ⟨h, _⟩ | ⟨a, len, cap, _, _, _, _, h, _⟩
    · exact ⟨none, 0, 0, h⟩
    · exact ⟨some a, len, cap, h⟩
  obtain ⟨a, len, cap, h⟩ := hx
  obtain ⟨l, hl⟩ := pieces_open h hf
  exact ⟨a, len, cap, l, h, hl⟩
theorem trod_struct5 {P : Program} {H : Type} {enc : TypeId × Value → H} {w : World} {base : Nat} {spare : Nat → Bool} {held : Bool} {t : TypeId} {f0 f1 f2 f3 f4 : Field} {fuel : Nat} {cs : List Value} {x : DataW H × List MemPlace} (ht : P.underlying t = some (.struct #[f0, f1, f2, f3, f4])) (h : DataW.trod enc P w base spare held fuel t cs = some x) :
    ∃ y0 y1 y2 y3 y4 n, cs.length = P.cellsOf t ∧ DataW.trod enc P w base spare held n f0.type ((cs.drop f0.offset).take (P.cellsOf f0.type)) = some y0 ∧
      DataW.trod enc P w base spare held n f1.type ((cs.drop f1.offset).take (P.cellsOf f1.type)) = some y1 ∧ DataW.trod enc P w base spare held n f2.type ((cs.drop f2.offset).take (P.cellsOf f2.type)) = some y2 ∧
      DataW.trod enc P w base spare held n f3.type ((cs.drop f3.offset).take (P.cellsOf f3.type)) = some y3 ∧ DataW.trod enc P w base spare held n f4.type ((cs.drop f4.offset).take (P.cellsOf f4.type)) = some y4 := by
  obtain ⟨xs, n, _, rfl, hl, hlen, hf⟩ := DataW.trod_struct ht h
  match xs, hlen with
  | [y0, y1, y2, y3, y4], _ => exact ⟨y0, y1, y2, y3, y4, n, hl, by simpa using hf 0 f0 rfl, by simpa using hf 1 f1 rfl, by simpa using hf 2 f2 rfl, by simpa using hf 3 f3 rfl, by simpa using hf 4 f4 rfl⟩
theorem five_parts {l : List Value} (h : l.length = 5) : ∃ a b c d e, l = [a, b, c, d, e] := by
  match l, h with
  | [a, b, c, d, e], _ => exact ⟨a, b, c, d, e, rfl⟩
theorem rq_open {H : Type} {enc : TypeId × Value → H} {W : World} {base : Nat} {spare : Nat → Bool} {held : Bool} {fuel : Nat} {cs : List Value} {x : DataW H × List MemPlace}
    (hf : DataW.trod enc Tryz.prog W base spare held fuel 24 cs = some x) : ∃ r : Rq, cs = [.int .i64 r.queue, .int .i64 r.fr, .int .i64 r.un, .int .i64 r.kind, .slice r.pa r.pn r.pc] ∧ RqIn W r := by
  obtain ⟨y0, y1, y2, y3, y4, n, hlen, t0, t1, t2, t3, t4⟩ := trod_struct5 Tryz.underlying24 hf
  have hce : Tryz.prog.cellsOf 24 = 5 := by kernel_rfl
  obtain ⟨v0, v1, v2, v3, v4, rfl⟩ := five_parts (hlen.trans hce)
  have c3 : Tryz.prog.cellsOf 3 = 1 := by kernel_rfl
  have c23 : Tryz.prog.cellsOf 22 = 1 := by kernel_rfl
  simp only [c3, c23, List.drop_zero, List.drop_succ_cons, List.take_succ_cons, List.take_zero] at t0 t1 t2 t3 t4
  obtain ⟨a0, h0, _, _⟩ := DataW.trod_int Tryz.underlying3 t0
  obtain ⟨a1, h1, _, _⟩ := DataW.trod_int Tryz.underlying3 t1
  obtain ⟨a2, h2, _, _⟩ := DataW.trod_int Tryz.underlying3 t2
  obtain ⟨a3, h3, _, _⟩ := DataW.trod_int Tryz.underlying3 t3
  obtain ⟨pa, pn, pc, pl, h4, hR⟩ := pieces_open_any t4
  simp at h0 h1 h2 h3 h4
  subst h0 h1 h2 h3 h4
  exact ⟨⟨a0, a1, a2, a3, pa, pn, pc, pl⟩, rfl, hR⟩
end Go.Proofs.YtckpdfkobdgjeaaGreatDoor
namespace Go.Proofs.YtckpdfkobdgjeaaGreatDoor
open Go.ChangeShapes Go.WideShapes Go.ChangeAt Go.RowKit
theorem BksIn.take {w : World} {a : Option Addr} {n cap : Nat} {b : BL} (h : BksIn w a n cap b) {k : Nat} (hk : k ≤ n) : BksIn w a k cap (b.take k) := by
  have hl := h.len
  have hle := h.le
  have e : ∀ i, i < k → bk (b.take k) i = bk b i := fun i hi => by
    unfold bk
    simp only [List.getD, List.getElem?_take]
    rw [if_pos hi]
  refine ⟨by simp; omega, by omega, h.capb, fun hp => ?_, fun i hi => by rw [e i hi]; exact h.rqs i (by omega), fun i hi => by rw [e i hi]; exact h.bites i (by omega)⟩
  obtain ⟨bb, bo, ha, hc⟩ := h.cells (by omega)
  exact ⟨bb, bo, ha, fun i hi => by rw [e i hi]; exact hc i (by omega)⟩
theorem BksIn.drop {w : World} {bb bo n cap : Nat} {b : BL} (h : BksIn w (some ⟨bb, bo, none⟩) n cap b) {k : Nat} (hk : k ≤ n) : BksIn w (some ⟨bb, bo + k * 7, none⟩) (n - k) (cap - k) (b.drop k) := by
  have hl := h.len
  have hle := h.le
  have e : ∀ i, bk (b.drop k) i = bk b (k + i) := fun i => by
    unfold bk
    simp only [List.getD, List.getElem?_drop]
  refine ⟨by simp; omega, by omega, by have := h.capb; omega, fun hp => ?_, fun i hi => by rw [e i]; exact h.rqs _ (by omega), fun i hi => by rw [e i]; exact h.bites _ (by omega)⟩
  obtain ⟨bb', bo', ha, hc⟩ := h.cells (by omega)
  cases ha
  refine ⟨bb, bo + k * 7, rfl, fun i hi => ?_⟩
  rw [e i]
  have := hc (k + i) (by omega)
  rw [show bo + (k + i) * 7 = bo + k * 7 + i * 7 from by omega] at this
  exact this
end Go.Proofs.YtckpdfkobdgjeaaGreatDoor
namespace Go.Proofs.YtckpdfkobdgjeaaGreatDoor
open Go.RowKit
def bkCell (x : Bk) : List Value := [.int .i64 x.id, .int .i64 x.rq.queue, .int .i64 x.rq.fr, .int .i64 x.rq.un, .int .i64 x.rq.kind, .slice x.rq.pa x.rq.pn x.rq.pc, .slice x.ba x.bn x.bc]
def bkCells : BL → List Value
  | [] => []
  | x :: l => bkCell x ++ bkCells l
theorem bkCells_length : ∀ l : BL, (bkCells l).length = l.length * 7
  | [] => rfl
  | x :: l => by simp only [bkCells, List.length_append, bkCells_length l, List.length_cons, bkCell]; simp; omega
theorem bkCells_app : ∀ a b : BL, bkCells (a ++ b) = bkCells a ++ bkCells b
  | [], b => rfl
  | x :: a, b => by rw [List.cons_append, bkCells, bkCells_app a b, bkCells, List.append_assoc]
theorem bkCells_one : ∀ (l : BL), ∀ u ∈ bkCells l, u.oneCell' = true
  | [], u, h => by simp [bkCells] at h
  | x :: l, u, h => by
    rcases List.mem_append.1 h with h | h
    · simp only [bkCell, List.mem_cons, List.not_mem_nil, or_false] at h
      rcases h with rfl | rfl | rfl | rfl | rfl | rfl | rfl <;> rfl
    · exact bkCells_one l u h
theorem bkCells_at : ∀ (l : BL) (i k : Nat), i < l.length → k < 7 → (bkCells l)[i * 7 + k]? = (bkCell (bk l i))[k]?
  | [], i, k, h, _ => by simp at h
  | x :: l, 0, k, _, hk => by
    rw [bkCells, List.getElem?_append_left (by simp [bkCell]; omega), Nat.zero_mul, Nat.zero_add]
    rfl
  | x :: l, i + 1, k, h, hk => by
    have := bkCells_at l i k (by simpa using h) hk
    rw [bkCells, List.getElem?_append_right (by simp [bkCell]; omega), show (i + 1) * 7 + k - (bkCell x).length = i * 7 + k from by simp [bkCell]; omega, this]
    rfl
theorem BksIn.list {w : World} {bb bo n cap : Nat} {l : BL} (h : BksIn w (some ⟨bb, bo, none⟩) n cap l) : ∀ j u, (bkCells l)[j]? = some u → w.cell? ⟨bb, bo + j, none⟩ = some u := by
  intro j u hu
  have hj : j < l.length * 7 := by
    have := (List.getElem?_eq_some_iff.1 hu).1
    rwa [bkCells_length] at this
  have hi : j / 7 < l.length := by omega
  have hk : j % 7 < 7 := by omega
  have hn := h.len
  obtain ⟨b', o', e, hc⟩ := h.cells (by omega)
  injection e with e
  injection e with e1 e2
  subst e1
  subst e2
  obtain ⟨c0, c1, c2, c3, c4, c5, c6⟩ := hc (j / 7) (by omega)
  have ej : j = j / 7 * 7 + j % 7 := by omega
  rw [ej, bkCells_at l _ _ hi hk] at hu
  rw [ej]
  obtain ⟨m, hm⟩ : ∃ m, j % 7 = m := ⟨_, rfl⟩
  rw [hm] at hu hk ⊢
  rw [← Nat.add_assoc]
  match m, hk with
  | 0, _ => simp [bkCell] at hu; rw [← hu]; exact c0
  | 1, _ => simp [bkCell] at hu; rw [← hu]; exact c1
  | 2, _ => simp [bkCell] at hu; rw [← hu]; exact c2
  | 3, _ => simp [bkCell] at hu; rw [← hu]; exact c3
  | 4, _ => simp [bkCell] at hu; rw [← hu]; exact c4
  | 5, _ => simp [bkCell] at hu; rw [← hu]; exact c5
  | 6, _ => simp [bkCell] at hu; rw [← hu]; exact c6
  | m + 7, hk => omega
theorem ownsRow_later {w w' : World} {B t s n : Nat} {v : Value} {xs : List Value} (h : w.ownsRow B t s v n xs) (hb : Below w.heap.size w w') : w'.ownsRow B t s v n xs := by
  refine ⟨h.1, ?_⟩
  rcases h.2 with hn | ⟨g, cap, cur, rfl, hB, hg, rest⟩
  · exact .inl hn
  · refine .inr ⟨g, cap, cur, rfl, hB, ?_, rest⟩
    rw [hb.block g (Array.getElem?_eq_some_iff.1 hg).1]
    exact hg
theorem own_bks {w : World} {B : Nat} {v : Value} {l : BL} (h : w.ownsRow B 60 7 v l.length (bkCells l)) (hq : ∀ x ∈ l, RqIn w x.rq) (hb : ∀ x ∈ l, RunsIn w x.ba x.bn x.bc x.bs) :
    ∃ a cap, v = .slice a l.length cap ∧ BksIn w a l.length cap l ∧ ∀ b off, a = some ⟨b, off, none⟩ → B ≤ b ∧ off = 0 := by
  rcases h.2 with ⟨rfl, hn⟩ | ⟨g, cap, cur, rfl, hB, hg, hle, hm, hs, ht⟩
  · refine ⟨none, 0, by rw [hn], ⟨rfl, by omega, by omega, fun hp => by omega, fun i hi => by omega, fun i hi => by omega⟩, fun b off e => by cases e⟩
  · refine ⟨some ⟨g, 0, none⟩, cap, rfl, ⟨rfl, hle, by simpa [maxLen] using hm, fun hp => ⟨g, 0, rfl, fun i hi => ?_⟩, fun i hi => hq _ (bk_mem hi), fun i hi => hb _ (bk_mem hi)⟩, fun b off e => by
      injection e with e
      injection e with e1 e2
      exact ⟨by omega, e2.symm⟩⟩
    have key : ∀ k u, k < 7 → (bkCell (bk l i))[k]? = some u → w.cell? ⟨g, 0 + i * 7 + k, none⟩ = some u := by
      intro k u hk hu
      rw [← bkCells_at l i k hi hk, ← ht, List.getElem?_take] at hu
      rw [Nat.zero_add]
      split at hu
      · rw [cell_of_row w g (i * 7 + k) cur _ (0, 0) hg]
        simpa using hu
      · cases hu
    exact ⟨key 0 _ (by omega) rfl, key 1 _ (by omega) rfl, key 2 _ (by omega) rfl, key 3 _ (by omega) rfl, key 4 _ (by omega) rfl, key 5 _ (by omega) rfl, key 6 _ (by omega) rfl⟩
theorem infoBook : (Tryz.prog.info? 60).map (fun i => (i.zero, i.size, i.bytes)) = some (some (.agg #[.int .i64 0, .int .i64 0, .int .i64 0, .int .i64 0, .int .i64 0, .slice none 0 0, .slice none 0 0]), 7, 88) := by kernel_rfl
theorem exec_append {P : Program} {o : Oper} {ev : Operand → Value} {w w' : World} {v' : Value} (s x : Operand) (t : TypeId) (ho : o.op = .call { callee := .builtin .append, args := #[s, x], argTypes := #[t, t] }) (v y : Value) (hs : ev s = v) (hx : ev x = y)
    (hr : (Builtin.append_ #[t, t] o.type #[v, y]).run P w = .ok v' w') : (execOp ev o).run P w = .ok (.value v') w' := by
  unfold execOp
  simp only [ho, resolve, invoke, builtin, Sem.run_bind, Sem.run_pure, Result.andThen_ok, List.map_toArray, List.map_cons, List.map_nil, hs, hx, hr]
end Go.Proofs.YtckpdfkobdgjeaaGreatDoor
namespace Go.Proofs.YtckpdfkobdgjeaaGreatDoor
open Go.RowKit
theorem cellsOf_one : ∀ (l : RunL), ∀ u ∈ cellsOf l, u.oneCell' = true
  | [], u, h => by simp [cellsOf] at h
  | r :: l, u, h => by
    simp only [cellsOf, List.mem_cons] at h
    rcases h with rfl | rfl | h
    · rfl
    · rfl
    · exact cellsOf_one l u h
theorem RunsIn.list {w : World} {ad : Addr} {n cap : Nat} {l : RunL} (h : RunsIn w (some ad) n cap l) : ∀ j u, (cellsOf l)[j]? = some u → w.cell? (ad.add j) = some u := by
  intro j u hu
  have hj : j < l.length * 2 := by
    have := (List.getElem?_eq_some_iff.1 hu).1
    rwa [cellsOf_length] at this
  have hn := h.len
  obtain ⟨b, off, e, hc⟩ := h.cells (by omega)
  injection e with e
  subst e
  obtain ⟨c0, c1⟩ := hc (j / 2) (by omega)
  rw [Addr.add_lit]
  have h2 : j % 2 = 0 ∨ j % 2 = 1 := by omega
  rcases h2 with h2 | h2
  · have e : j = j / 2 * 2 := by omega
    rw [e, cellsOf_even l _ (by omega)] at hu
    rw [e, ← hu]
    exact c0
  · have e : j = j / 2 * 2 + 1 := by omega
    rw [e, cellsOf_odd l _ (by omega)] at hu
    rw [e, ← hu]
    exact c1
theorem own_pairs {w : World} {B t : Nat} {v : Value} {l : RunL} (h : w.ownsRow B t 2 v l.length (cellsOf l)) (hm : l.length ≤ 1000) : ∃ a cap, v = .slice a l.length cap ∧ RunsIn w a l.length cap l ∧ ∀ b off, a = some ⟨b, off, none⟩ → B ≤ b ∧ off = 0 := by
  rcases h.2 with ⟨rfl, hn⟩ | ⟨g, cap, cur, rfl, hB, hg, hle, hmx, hs, ht⟩
  · refine ⟨none, 0, by rw [hn], ⟨rfl, by omega, by omega, by omega, fun hp => by omega⟩, fun b off e => by cases e⟩
  · refine ⟨some ⟨g, 0, none⟩, cap, rfl, ⟨rfl, hle, by omega, by simpa [maxLen] using hmx, fun hp => ⟨g, 0, rfl, fun i hi => ?_⟩⟩, fun b off e => by
      injection e with e
      injection e with e1 e2
      exact ⟨by omega, e2.symm⟩⟩
    have key : ∀ k u, (cellsOf l)[k]? = some u → w.cell? ⟨g, k, none⟩ = some u := by
      intro k u hu
      rw [← ht, List.getElem?_take] at hu
      split at hu
      · rw [cell_of_row w g k cur _ (0, 0) hg]
        simpa using hu
      · cases hu
    exact ⟨by rw [Nat.zero_add]; exact key _ _ (cellsOf_even l i hi), by rw [Nat.zero_add]; exact key _ _ (cellsOf_odd l i hi)⟩
set_option maxRecDepth 100000 in
set_option maxHeartbeats 1000000 in
theorem CloneRuns_row (w : World) (a : Option Addr) (n c : Nat) (news : List Value) (hl : news.length = n * 2) (hn : n ≤ 1000) (hc : ∀ ad, a = some ad → ∀ j u, news[j]? = some u → w.cell? (ad.add j) = some u) (h1 : ∀ u ∈ news, u.oneCell' = true) (h0 : a = none → n = 0) :
    Calls Tryz.prog 94 #[.slice a n c] w fun e w' => ∃ v', e = .returned v' ∧ w'.ownsRow w.heap.size 55 2 v' n news ∧ Below w.heap.size w w' := by
  have qe : ∀ (w : World) (a : Option Addr) (n c n' c' : Nat), (binOp .eql 25 (.slice a n c) (.slice none n' c')).run Tryz.prog w = .ok (.bool a.isNone) w := fun w a n c n' c' => Lib.run_eql_slice_nil w _ _ a n c n' c' Tryz.underlying25
  obtain ⟨i0, hi, e⟩ := Option.map_eq_some_iff.1 (show (Tryz.prog.info? 55).map (fun i => (i.zero, i.size, i.bytes)) = some (some (.agg #[.int .i64 0, .int .i64 0]), 2, 16) from by kernel_rfl)
  simp only [Prod.mk.injEq] at e
  obtain ⟨e1, e2, e3⟩ := e
  cases a with
  | none =>
    obtain rfl := h0 rfl
    have hnil : news = [] := List.length_eq_zero_iff.1 (by omega)
    subst hnil
    go_enter Tryz.func94, Tryz.ntmps94
    go_wp2
    go_ret
    exact ⟨_, rfl, World.ownsRow_nil _ _ _ _, Below.refl _ _⟩
  | some ad =>
    have HC := hid (hc ad rfl)
    clear hc h0
    go_enter Tryz.func94, Tryz.ntmps94
    go_wp2_with (at_builtin; refine wpList_append_own _ rfl _ _ 25 rfl w.heap.size 55 i0 _ 2 16 Tryz.underlying25 hi e1 e2 e3 (by rfl) (by omega) _ _ _ rfl (World.ownsRow_made w #[] 0 (Nat.le_refl _) (Nat.zero_le _) (by simp)) ad n c news rfl ?qc1 ?qc2 ?qc3 ?qc4 ?qc5 ?qc6 ?_)
    case qc1 => exact hl
    case qc2 =>
      intro j u hj
      exact cell_later ((Below.refl _ _).alloc (Nat.le_refl _) _) (HC.out j u hj)
    case qc3 => exact h1
    case qc4 => simp only [maxLen]; omega
    case qc5 => omega
    case qc6 => simp
    intro v' w1 hown hgrow hnil
    go_wp2
    go_ret
    refine ⟨v', rfl, by simpa using hown, ?_⟩
    exact ((Below.refl _ w).alloc (Nat.le_refl _) _).grown hgrow (by simp) (by intro k hk; simp [Value.ownBlock] at hk; omega)
theorem CloneRuns_any (w : World) (a : Option Addr) (n cap : Nat) (l : RunL) (h : RunsIn w a n cap l) (hn : n ≤ 1000) :
    Calls Tryz.prog 94 #[.slice a n cap] w fun e w' => ∃ a' c', e = .returned (.slice a' n c') ∧ RunsIn w' a' n c' l ∧ Below w.heap.size w w' ∧ ∀ b off, a' = some ⟨b, off, none⟩ → w.heap.size ≤ b := by
  refine (CloneRuns_row w a n cap (cellsOf l) (by rw [cellsOf_length, h.len]) hn ?_ (cellsOf_one l) ?_).mono ?_
  · rintro ad rfl j u hu
    exact h.list j u hu
  · rintro rfl
    by_cases e : 0 < n
    · obtain ⟨b, off, e, _⟩ := h.cells e
      cases e
    · omega
  · rintro e w' ⟨v', rfl, hO, hb⟩
    obtain ⟨a', c', rfl, h1, h2⟩ := own_pairs (l := l) (h.len ▸ hO) (by have := h.len; omega)
    exact ⟨a', c', by rw [h.len], by rw [h.len]; exact h1, hb, fun b off e => (h2 b off e).1⟩
set_option maxRecDepth 100000 in
set_option maxHeartbeats 1000000 in
theorem ClonePieces_row (w : World) (a : Option Addr) (n c : Nat) (news : List Value) (hl : news.length = n * 2) (hn : n ≤ 1000) (hc : ∀ ad, a = some ad → ∀ j u, news[j]? = some u → w.cell? (ad.add j) = some u) (h1 : ∀ u ∈ news, u.oneCell' = true) (h0 : a = none → n = 0) :
    Calls Tryz.prog 142 #[.slice a n c] w fun e w' => ∃ v', e = .returned v' ∧ w'.ownsRow w.heap.size 64 2 v' n news ∧ Below w.heap.size w w' := by
  have qe : ∀ (w : World) (a : Option Addr) (n c n' c' : Nat), (binOp .eql 22 (.slice a n c) (.slice none n' c')).run Tryz.prog w = .ok (.bool a.isNone) w := fun w a n c n' c' => Lib.run_eql_slice_nil w _ _ a n c n' c' Tryz.underlying22
  obtain ⟨i0, hi, e⟩ := Option.map_eq_some_iff.1 (show (Tryz.prog.info? 64).map (fun i => (i.zero, i.size, i.bytes)) = some (some (.agg #[.int .i64 0, .int .i64 0]), 2, 16) from by kernel_rfl)
  simp only [Prod.mk.injEq] at e
  obtain ⟨e1, e2, e3⟩ := e
  cases a with
  | none =>
    obtain rfl := h0 rfl
    have hnil : news = [] := List.length_eq_zero_iff.1 (by omega)
    subst hnil
    go_enter Tryz.func142, Tryz.ntmps142
    go_wp2
    go_ret
    exact ⟨_, rfl, World.ownsRow_nil _ _ _ _, Below.refl _ _⟩
  | some ad =>
    have HC := hid (hc ad rfl)
    clear hc h0
    go_enter Tryz.func142, Tryz.ntmps142
    go_wp2_with (at_builtin; refine wpList_append_own _ rfl _ _ 22 rfl w.heap.size 64 i0 _ 2 16 Tryz.underlying22 hi e1 e2 e3 (by rfl) (by omega) _ _ _ rfl (World.ownsRow_made w #[] 0 (Nat.le_refl _) (Nat.zero_le _) (by simp)) ad n c news rfl ?qc1 ?qc2 ?qc3 ?qc4 ?qc5 ?qc6 ?_)
    case qc1 => exact hl
    case qc2 =>
      intro j u hj
      exact cell_later ((Below.refl _ _).alloc (Nat.le_refl _) _) (HC.out j u hj)
    case qc3 => exact h1
    case qc4 => simp only [maxLen]; omega
    case qc5 => omega
    case qc6 => simp
    intro v' w1 hown hgrow hnil
    go_wp2
    go_ret
    refine ⟨v', rfl, by simpa using hown, ?_⟩
    exact ((Below.refl _ w).alloc (Nat.le_refl _) _).grown hgrow (by simp) (by intro k hk; simp [Value.ownBlock] at hk; omega)
theorem ClonePieces_any (w : World) (a : Option Addr) (n cap : Nat) (l : RunL) (h : RunsIn w a n cap l) (hn : n ≤ 1000) :
    Calls Tryz.prog 142 #[.slice a n cap] w fun e w' => ∃ a' c', e = .returned (.slice a' n c') ∧ RunsIn w' a' n c' l ∧ Below w.heap.size w w' ∧ ∀ b off, a' = some ⟨b, off, none⟩ → w.heap.size ≤ b := by
  refine (ClonePieces_row w a n cap (cellsOf l) (by rw [cellsOf_length, h.len]) hn ?_ (cellsOf_one l) ?_).mono ?_
  · rintro ad rfl j u hu
    exact h.list j u hu
  · rintro rfl
    by_cases e : 0 < n
    · obtain ⟨b, off, e, _⟩ := h.cells e
      cases e
    · omega
  · rintro e w' ⟨v', rfl, hO, hb⟩
    obtain ⟨a', c', rfl, h1, h2⟩ := own_pairs (l := l) (h.len ▸ hO) (by have := h.len; omega)
    exact ⟨a', c', by rw [h.len], by rw [h.len]; exact h1, hb, fun b off e => (h2 b off e).1⟩
set_option maxRecDepth 100000 in
set_option maxHeartbeats 1000000 in
theorem CloneBites_row (w : World) (a : Option Addr) (n c : Nat) (news : List Value) (hl : news.length = n * 2) (hn : n ≤ 1000) (hc : ∀ ad, a = some ad → ∀ j u, news[j]? = some u → w.cell? (ad.add j) = some u) (h1 : ∀ u ∈ news, u.oneCell' = true) (h0 : a = none → n = 0) :
    Calls Tryz.prog 141 #[.slice a n c] w fun e w' => ∃ v', e = .returned v' ∧ w'.ownsRow w.heap.size 62 2 v' n news ∧ Below w.heap.size w w' := by
  have qe : ∀ (w : World) (a : Option Addr) (n c n' c' : Nat), (binOp .eql 58 (.slice a n c) (.slice none n' c')).run Tryz.prog w = .ok (.bool a.isNone) w := fun w a n c n' c' => Lib.run_eql_slice_nil w _ _ a n c n' c' Tryz.underlying58
  obtain ⟨i0, hi, e⟩ := Option.map_eq_some_iff.1 (show (Tryz.prog.info? 62).map (fun i => (i.zero, i.size, i.bytes)) = some (some (.agg #[.int .i64 0, .int .i64 0]), 2, 16) from by kernel_rfl)
  simp only [Prod.mk.injEq] at e
  obtain ⟨e1, e2, e3⟩ := e
  cases a with
  | none =>
    obtain rfl := h0 rfl
    have hnil : news = [] := List.length_eq_zero_iff.1 (by omega)
    subst hnil
    go_enter Tryz.func141, Tryz.ntmps141
    go_wp2
    go_ret
    exact ⟨_, rfl, World.ownsRow_nil _ _ _ _, Below.refl _ _⟩
  | some ad =>
    have HC := hid (hc ad rfl)
    clear hc h0
    go_enter Tryz.func141, Tryz.ntmps141
    go_wp2_with (at_builtin; refine wpList_append_own _ rfl _ _ 58 rfl w.heap.size 62 i0 _ 2 16 Tryz.underlying58 hi e1 e2 e3 (by rfl) (by omega) _ _ _ rfl (World.ownsRow_made w #[] 0 (Nat.le_refl _) (Nat.zero_le _) (by simp)) ad n c news rfl ?qc1 ?qc2 ?qc3 ?qc4 ?qc5 ?qc6 ?_)
    case qc1 => exact hl
    case qc2 =>
      intro j u hj
      exact cell_later ((Below.refl _ _).alloc (Nat.le_refl _) _) (HC.out j u hj)
    case qc3 => exact h1
    case qc4 => simp only [maxLen]; omega
    case qc5 => omega
    case qc6 => simp
    intro v' w1 hown hgrow hnil
    go_wp2
    go_ret
    refine ⟨v', rfl, by simpa using hown, ?_⟩
    exact ((Below.refl _ w).alloc (Nat.le_refl _) _).grown hgrow (by simp) (by intro k hk; simp [Value.ownBlock] at hk; omega)
theorem CloneBites_any (w : World) (a : Option Addr) (n cap : Nat) (l : RunL) (h : RunsIn w a n cap l) (hn : n ≤ 1000) :
    Calls Tryz.prog 141 #[.slice a n cap] w fun e w' => ∃ a' c', e = .returned (.slice a' n c') ∧ RunsIn w' a' n c' l ∧ Below w.heap.size w w' ∧ ∀ b off, a' = some ⟨b, off, none⟩ → w.heap.size ≤ b := by
  refine (CloneBites_row w a n cap (cellsOf l) (by rw [cellsOf_length, h.len]) hn ?_ (cellsOf_one l) ?_).mono ?_
  · rintro ad rfl j u hu
    exact h.list j u hu
  · rintro rfl
    by_cases e : 0 < n
    · obtain ⟨b, off, e, _⟩ := h.cells e
      cases e
    · omega
  · rintro e w' ⟨v', rfl, hO, hb⟩
    obtain ⟨a', c', rfl, h1, h2⟩ := own_pairs (l := l) (h.len ▸ hO) (by have := h.len; omega)
    exact ⟨a', c', by rw [h.len], by rw [h.len]; exact h1, hb, fun b off e => (h2 b off e).1⟩
def quCell (q : Qu) : List Value := [.string q.name, .int .i64 q.parent, .slice q.ca q.cn q.cc]
def quCells : QL → List Value
  | [] => []
  | x :: l => quCell x ++ quCells l
theorem quCells_length : ∀ l : QL, (quCells l).length = l.length * 3
  | [] => rfl
  | x :: l => by simp only [quCells, List.length_append, quCells_length l, List.length_cons, quCell]; simp; omega
theorem quCells_one : ∀ (l : QL), ∀ u ∈ quCells l, u.oneCell' = true
  | [], u, h => by simp [quCells] at h
  | x :: l, u, h => by
    rcases List.mem_append.1 h with h | h
    · simp only [quCell, List.mem_cons, List.not_mem_nil, or_false] at h
      rcases h with rfl | rfl | rfl <;> rfl
    · exact quCells_one l u h
theorem quCells_at : ∀ (l : QL) (i k : Nat), i < l.length → k < 3 → (quCells l)[i * 3 + k]? = (quCell (qu l i))[k]?
  | [], i, k, h, _ => by simp at h
  | x :: l, 0, k, _, hk => by
    rw [quCells, List.getElem?_append_left (by simp [quCell]; omega), Nat.zero_mul, Nat.zero_add]
    rfl
  | x :: l, i + 1, k, h, hk => by
    have := quCells_at l i k (by simpa using h) hk
    rw [quCells, List.getElem?_append_right (by simp [quCell]; omega), show (i + 1) * 3 + k - (quCell x).length = i * 3 + k from by simp [quCell]; omega, this]
    rfl
theorem QsIn.list {w : World} {ad : Addr} {n cap : Nat} {l : QL} (h : QsIn w (some ad) n cap l) : ∀ j u, (quCells l)[j]? = some u → w.cell? (ad.add j) = some u := by
  intro j u hu
  have hj : j < l.length * 3 := by
    have := (List.getElem?_eq_some_iff.1 hu).1
    rwa [quCells_length] at this
  have hi : j / 3 < l.length := by omega
  have hk : j % 3 < 3 := by omega
  have hn := h.len
  obtain ⟨b', o', e, hc⟩ := h.cells (by omega)
  injection e with e
  subst e
  obtain ⟨c0, c1, c2⟩ := hc (j / 3) (by omega)
  have ej : j = j / 3 * 3 + j % 3 := by omega
  rw [ej, quCells_at l _ _ hi hk] at hu
  rw [Addr.add_lit, ej]
  obtain ⟨m, hm⟩ : ∃ m, j % 3 = m := ⟨_, rfl⟩
  rw [hm] at hu hk ⊢
  rw [← Nat.add_assoc]
  match m, hk with
  | 0, _ => simp [quCell] at hu; rw [← hu]; exact c0
  | 1, _ => simp [quCell] at hu; rw [← hu]; exact c1
  | 2, _ => simp [quCell] at hu; rw [← hu]; exact c2
  | m + 3, hk => omega
theorem own_qs {w : World} {B : Nat} {v : Value} {l : QL} (h : w.ownsRow B 66 3 v l.length (quCells l)) (hc : ∀ i, i < l.length → RunsIn w (qu l i).ca (qu l i).cn (qu l i).cc (qu l i).runs) (hs : ∀ i, i < l.length → (qu l i).name.size ≤ 9223372036854775807) :
    ∃ a cap, v = .slice a l.length cap ∧ QsIn w a l.length cap l ∧ ∀ b off, a = some ⟨b, off, none⟩ → B ≤ b ∧ off = 0 := by
  rcases h.2 with ⟨rfl, hn⟩ | ⟨g, cap, cur, rfl, hB, hg, hle, hm, hz, ht⟩
  · refine ⟨none, 0, by rw [hn], ⟨rfl, by omega, by omega, fun hp => by omega, fun i hi => by omega, fun i hi => by omega⟩, fun b off e => by cases e⟩
  · refine ⟨some ⟨g, 0, none⟩, cap, rfl, ⟨rfl, hle, by simpa [maxLen] using hm, fun hp => ⟨g, 0, rfl, fun i hi => ?_⟩, hc, hs⟩, fun b off e => by
      injection e with e
      injection e with e1 e2
      exact ⟨by omega, e2.symm⟩⟩
    have key : ∀ k u, k < 3 → (quCell (qu l i))[k]? = some u → w.cell? ⟨g, 0 + i * 3 + k, none⟩ = some u := by
      intro k u hk hu
      rw [← quCells_at l i k hi hk, ← ht, List.getElem?_take] at hu
      rw [Nat.zero_add]
      split at hu
      · rw [cell_of_row w g (i * 3 + k) cur _ (0, 0) hg]
        simpa using hu
      · cases hu
    exact ⟨key 0 _ (by omega) rfl, key 1 _ (by omega) rfl, key 2 _ (by omega) rfl⟩
set_option maxRecDepth 100000 in
set_option maxHeartbeats 1000000 in
theorem CloneQs_row (w : World) (a : Option Addr) (n c : Nat) (news : List Value) (hl : news.length = n * 3) (hn : n ≤ 1000) (hc : ∀ ad, a = some ad → ∀ j u, news[j]? = some u → w.cell? (ad.add j) = some u) (h1 : ∀ u ∈ news, u.oneCell' = true) (h0 : a = none → n = 0) :
    Calls Tryz.prog 127 #[.slice a n c] w fun e w' => ∃ v', e = .returned v' ∧ w'.ownsRow w.heap.size 66 3 v' n news ∧ Below w.heap.size w w' := by
  have qe : ∀ (w : World) (a : Option Addr) (n c n' c' : Nat), (binOp .eql 37 (.slice a n c) (.slice none n' c')).run Tryz.prog w = .ok (.bool a.isNone) w := fun w a n c n' c' => Lib.run_eql_slice_nil w _ _ a n c n' c' Tryz.underlying37
  obtain ⟨i0, hi, e⟩ := Option.map_eq_some_iff.1 (show (Tryz.prog.info? 66).map (fun i => (i.zero, i.size, i.bytes)) = some (some (.agg #[.string ⟨#[]⟩, .int .i64 0, .slice none 0 0]), 3, 48) from by kernel_rfl)
  simp only [Prod.mk.injEq] at e
  obtain ⟨e1, e2, e3⟩ := e
  cases a with
  | none =>
    obtain rfl := h0 rfl
    have hnil : news = [] := List.length_eq_zero_iff.1 (by omega)
    subst hnil
    go_enter Tryz.func127, Tryz.ntmps127
    go_wp2
    go_ret
    exact ⟨_, rfl, World.ownsRow_nil _ _ _ _, Below.refl _ _⟩
  | some ad =>
    have HC := hid (hc ad rfl)
    clear hc h0
    go_enter Tryz.func127, Tryz.ntmps127
    go_wp2_with (at_builtin; refine wpList_append_own _ rfl _ _ 37 rfl w.heap.size 66 i0 _ 3 48 Tryz.underlying37 hi e1 e2 e3 (by rfl) (by omega) _ _ _ rfl (World.ownsRow_made w #[] 0 (Nat.le_refl _) (Nat.zero_le _) (by simp)) ad n c news rfl ?qc1 ?qc2 ?qc3 ?qc4 ?qc5 ?qc6 ?_)
    case qc1 => exact hl
    case qc2 =>
      intro j u hj
      exact cell_later ((Below.refl _ _).alloc (Nat.le_refl _) _) (HC.out j u hj)
    case qc3 => exact h1
    case qc4 => simp only [maxLen]; omega
    case qc5 => omega
    case qc6 => simp
    intro v' w1 hown hgrow hnil
    go_wp2
    go_ret
    refine ⟨v', rfl, by simpa using hown, ?_⟩
    exact ((Below.refl _ w).alloc (Nat.le_refl _) _).grown hgrow (by simp) (by intro k hk; simp [Value.ownBlock] at hk; omega)
set_option maxRecDepth 100000 in
set_option maxHeartbeats 1000000 in
theorem CloneBks_row (w : World) (a : Option Addr) (n c : Nat) (news : List Value) (hl : news.length = n * 7) (hn : n ≤ 1000) (hc : ∀ ad, a = some ad → ∀ j u, news[j]? = some u → w.cell? (ad.add j) = some u) (h1 : ∀ u ∈ news, u.oneCell' = true) (h0 : a = none → n = 0) :
    Calls Tryz.prog 140 #[.slice a n c] w fun e w' => ∃ v', e = .returned v' ∧ w'.ownsRow w.heap.size 60 7 v' n news ∧ Below w.heap.size w w' := by
  have qe : ∀ (w : World) (a : Option Addr) (n c n' c' : Nat), (binOp .eql 38 (.slice a n c) (.slice none n' c')).run Tryz.prog w = .ok (.bool a.isNone) w := fun w a n c n' c' => Lib.run_eql_slice_nil w _ _ a n c n' c' Tryz.underlying38
  obtain ⟨i0, hi, e⟩ := Option.map_eq_some_iff.1 (show (Tryz.prog.info? 60).map (fun i => (i.zero, i.size, i.bytes)) = some (some (.agg #[.int .i64 0, .int .i64 0, .int .i64 0, .int .i64 0, .int .i64 0, .slice none 0 0, .slice none 0 0]), 7, 88) from by kernel_rfl)
  simp only [Prod.mk.injEq] at e
  obtain ⟨e1, e2, e3⟩ := e
  cases a with
  | none =>
    obtain rfl := h0 rfl
    have hnil : news = [] := List.length_eq_zero_iff.1 (by omega)
    subst hnil
    go_enter Tryz.func140, Tryz.ntmps140
    go_wp2
    go_ret
    exact ⟨_, rfl, World.ownsRow_nil _ _ _ _, Below.refl _ _⟩
  | some ad =>
    have HC := hid (hc ad rfl)
    clear hc h0
    go_enter Tryz.func140, Tryz.ntmps140
    go_wp2_with (at_builtin; refine wpList_append_own _ rfl _ _ 38 rfl w.heap.size 60 i0 _ 7 88 Tryz.underlying38 hi e1 e2 e3 (by rfl) (by omega) _ _ _ rfl (World.ownsRow_made w #[] 0 (Nat.le_refl _) (Nat.zero_le _) (by simp)) ad n c news rfl ?qc1 ?qc2 ?qc3 ?qc4 ?qc5 ?qc6 ?_)
    case qc1 => exact hl
    case qc2 =>
      intro j u hj
      exact cell_later ((Below.refl _ _).alloc (Nat.le_refl _) _) (HC.out j u hj)
    case qc3 => exact h1
    case qc4 => simp only [maxLen]; omega
    case qc5 => omega
    case qc6 => simp
    intro v' w1 hown hgrow hnil
    go_wp2
    go_ret
    refine ⟨v', rfl, by simpa using hown, ?_⟩
    exact ((Below.refl _ w).alloc (Nat.le_refl _) _).grown hgrow (by simp) (by intro k hk; simp [Value.ownBlock] at hk; omega)
end Go.Proofs.YtckpdfkobdgjeaaGreatDoor
namespace Go.Proofs.YtckpdfkobdgjeaaGreatDoor
open Go.RowKit
theorem RunsIn.set_away {w : World} {a : Option Addr} {n cap : Nat} {l : RunL} (h : RunsIn w a n cap l) (p : Addr) (u : Value) (hb : 0 < n → ∀ b off, a = some ⟨b, off, none⟩ → b ≠ p.block) : RunsIn (w.setCell p u) a n cap l :=
  h.of_away fun hp b off e => heap_setCell_other w p b u (hb hp b off e)
theorem RunsIn.old {w : World} {a : Option Addr} {n cap : Nat} {l : RunL} (h : RunsIn w a n cap l) (hp : 0 < n) : ∀ b off, a = some ⟨b, off, none⟩ → b < w.heap.size := fun _ _ e => h.lt hp e
theorem five_stores (w : World) (G : Nat) (t : TypeId) (x0 x1 x2 x3 x4 a b c d e : Value) (h : w.heap[G]? = some (.cells #[x0, x1, x2, x3, x4] t (0, 0))) :
    (((((w.setCell ⟨G, 0, none⟩ a).setCell ⟨G, 1, none⟩ b).setCell ⟨G, 2, none⟩ c).setCell ⟨G, 3, none⟩ d).setCell ⟨G, 4, none⟩ e).heap[G]? = some (.cells #[a, b, c, d, e] t (0, 0)) ∧
    ∀ k, k ≠ G → (((((w.setCell ⟨G, 0, none⟩ a).setCell ⟨G, 1, none⟩ b).setCell ⟨G, 2, none⟩ c).setCell ⟨G, 3, none⟩ d).setCell ⟨G, 4, none⟩ e).heap[k]? = w.heap[k]? := by
  have h0 := heap_setCell_same w G 0 _ t a h
  have h1 := heap_setCell_same _ G 1 _ t b h0
  have h2 := heap_setCell_same _ G 2 _ t c h1
  have h3 := heap_setCell_same _ G 3 _ t d h2
  have h4 := heap_setCell_same _ G 4 _ t e h3
  refine ⟨h4, fun k hk => ?_⟩
  rw [heap_setCell_other _ ⟨G, 4, none⟩ k _ hk, heap_setCell_other _ ⟨G, 3, none⟩ k _ hk, heap_setCell_other _ ⟨G, 2, none⟩ k _ hk, heap_setCell_other _ ⟨G, 1, none⟩ k _ hk, heap_setCell_other _ ⟨G, 0, none⟩ k _ hk]
theorem quCells_set : ∀ (l : QL) (j : Nat) (a : Option Addr) (n c : Nat) (rs : RunL), j < l.length → quCells (l.set j ⟨(qu l j).name, (qu l j).parent, a, n, c, rs⟩) = (quCells l).set (j * 3 + 2) (.slice a n c)
  | [], j, a, n, c, rs, h => by simp at h
  | x :: l, 0, a, n, c, rs, _ => rfl
  | x :: l, j + 1, a, n, c, rs, h => by
    have ih := quCells_set l j a n c rs (by simpa using h)
    rw [List.set_cons_succ, quCells, quCells, show (j + 1) * 3 + 2 = j * 3 + 2 + 1 + 1 + 1 from by omega]
    show quCell x ++ quCells (l.set j ⟨(qu l j).name, (qu l j).parent, a, n, c, rs⟩) = _
    rw [ih]
    rfl
theorem qu_set {l : QL} {j : Nat} (q : Qu) (hj : j < l.length) (i : Nat) : qu (l.set j q) i = if i = j then q else qu l i := by
  unfold qu
  rw [List.getD_eq_getElem?_getD, List.getD_eq_getElem?_getD, List.getElem?_set]
  by_cases e : j = i
  · subst e; simp [hj]
  · rw [if_neg e, if_neg (Ne.symm e)]
theorem bareQ_set {l : QL} {j : Nat} {q : Qu} (hj : j < l.length) (hq : q.bare = (qu l j).bare) : bareQ (l.set j q) = bareQ l := by
  apply List.ext_getElem?
  intro i
  unfold bareQ
  rw [List.getElem?_map, List.getElem?_map, List.getElem?_set]
  by_cases e : j = i
  · subst e
    rw [if_pos rfl, if_pos hj]
    have e2 : l[j]? = some (qu l j) := by rw [List.getElem?_eq_getElem hj]; simp [qu, List.getD, hj]
    rw [e2]
    simp [hq]
  · rw [if_neg e]
structure OwnQs (w : World) (B : Nat) (v : Value) (l : QL) : Prop where
  row : w.ownsRow B 66 3 v l.length (quCells l)
  caps : ∀ i, i < l.length → RunsIn w (qu l i).ca (qu l i).cn (qu l i).cc (qu l i).runs
  far : ∀ i, i < l.length → 0 < (qu l i).cn → ∀ b off, (qu l i).ca = some ⟨b, off, none⟩ → v.ownBlock ≠ some b
  names : ∀ i, i < l.length → (qu l i).name.size ≤ 9223372036854775807
theorem OwnQs.later {w w' : World} {B : Nat} {v : Value} {l : QL} (h : OwnQs w B v l) (hb : Below w.heap.size w w') : OwnQs w' B v l :=
  ⟨ownsRow_later h.row hb, fun i hi => (h.caps i hi).later hb, h.far, h.names⟩
theorem OwnQs.qs {w : World} {B : Nat} {v : Value} {l : QL} (h : OwnQs w B v l) : ∃ a cap, v = .slice a l.length cap ∧ QsIn w a l.length cap l ∧ ∀ b off, a = some ⟨b, off, none⟩ → B ≤ b ∧ off = 0 := own_qs h.row h.caps h.names
theorem OwnQs.store {w : World} {B g n c : Nat} {l : QL} (h : OwnQs w B (.slice (some ⟨g, 0, none⟩) n c) l) (hn : n = l.length) {j : Nat} (hj : j < l.length) {a : Option Addr} {m k : Nat} {rs : RunL} (hr : RunsIn w a m k rs) (hf : 0 < m → ∀ b off, a = some ⟨b, off, none⟩ → b ≠ g) :
    OwnQs (w.setCell ⟨g, j * 3 + 2, none⟩ (.slice a m k)) B (.slice (some ⟨g, 0, none⟩) n c) (l.set j ⟨(qu l j).name, (qu l j).parent, a, m, k, rs⟩) := by
  subst hn
  have hl : (l.set j ⟨(qu l j).name, (qu l j).parent, a, m, k, rs⟩).length = l.length := List.length_set
  refine ⟨?_, fun i hi => ?_, fun i hi => ?_, fun i hi => ?_⟩
  · rw [hl, quCells_set l j a m k rs hj]
    exact (h.row.stored (j * 3 + 2) (.slice a m k)).1
  · rw [hl] at hi
    rw [qu_set _ hj]
    split
    · exact hr.set_away _ _ hf
    · exact (h.caps i hi).set_away _ _ fun hp b off e e2 => h.far i hi hp b off e (by rw [e2]; rfl)
  · rw [hl] at hi
    rw [qu_set _ hj]
    split
    · intro hp b off e
      have := hf hp b off e
      simpa [Value.ownBlock] using Ne.symm this
    · exact h.far i hi
  · rw [hl] at hi
    rw [qu_set _ hj]
    split
    · exact h.names j hj
    · exact h.names i hi
set_option maxRecDepth 100000 in
set_option maxHeartbeats 1000000 in
theorem Queues_any (w : World) (a : Option Addr) (n cap : Nat) (l : QL) (h : QsIn w a n cap l) (hp : 0 < n) (hn : n ≤ 1000) (hcs : ∀ i, i < n → (qu l i).cn ≤ 1000) :
    Calls Tryz.prog 79 #[.slice a n cap] w fun e w' => ∃ g c' l', e = .returned (.slice (some ⟨g, 0, none⟩) n c') ∧ OwnQs w' w.heap.size (.slice (some ⟨g, 0, none⟩) n c') l' ∧ n = l'.length ∧ bareQ l' = bareQ l ∧ Below w.heap.size w w' ∧ n ≤ c' ∧ ∀ i, i < n → 0 < (qu l' i).cn → ∀ b off, (qu l' i).ca = some ⟨b, off, none⟩ → w.heap.size ≤ b := by
  obtain ⟨qb, qo, rfl, _⟩ := h.cells hp
  have HN := hid h.len
  have HH := hid h
  have HK := hid (CloneQs_row w (some ⟨qb, qo, none⟩) n cap (quCells l) (by rw [quCells_length, h.len]) hn (fun ad e j u hu => by injection e with e; subst e; exact h.list j u hu) (quCells_one l) (fun e => by cases e))
  have HCS := hid hcs
  clear h hcs
  go_enter Tryz.func79, Tryz.ntmps79
  go_wp2_with fail
  refine HK.out.mono ?_
  rintro e w1 ⟨v, rfl, hO, hb⟩
  rcases hO.2 with ⟨_, e0⟩ | ⟨g, c', cur, rfl, hB, hg, hle, hm, _, _⟩
  · omega
  have hcb : c' ≤ 9223372036854775807 := by simpa [maxLen] using hm
  have hgs : g < w1.heap.size := (Array.getElem?_eq_some_iff.1 hg).1
  have hO1 : OwnQs w1 w.heap.size (.slice (some ⟨g, 0, none⟩) n c') l := by
    have hlen := HN.out
    subst hlen
    refine ⟨hO, fun i hi => (HH.out.caps i hi).later hb, fun i hi hpc b off e => ?_, HH.out.names⟩
    have := (HH.out.caps i hi).lt hpc e
    intro e2
    simp only [Value.ownBlock, Option.some.injEq] at e2
    omega
  have HO1 := hid hO1
  have HB1 := hid hb
  clear hO hb hO1 hg hm HK
  go_wp2_with fail
  go_loopw [4, 9] (fun _ st wr => ∃ (i : Nat) (l' : QL), st = .int .i64 i ∧ i ≤ n ∧ n = l'.length ∧ bareQ l' = bareQ l ∧ OwnQs wr w.heap.size (.slice (some ⟨g, 0, none⟩) n c') l' ∧ (∀ j, i ≤ j → j < n → qu l' j = qu l j) ∧ (∀ j, j < i → 0 < (qu l' j).cn → ∀ b off, (qu l' j).ca = some ⟨b, off, none⟩ → w.heap.size ≤ b) ∧ Below w.heap.size w wr ∧ g < wr.heap.size) (fun _ st _ => n - (intOf st).toNat)
  case atStart => exact ⟨0, l, rfl, by omega, HN.out, rfl, HO1.out, fun _ _ _ => rfl, fun j hj => by omega, HB1.out, hgs⟩
  case round =>
    obtain ⟨i, l', rfl, hi, hl', hbare, hO', hold, hnew, hbel, hgr⟩ := hrel
    have HL' := hid hl'
    have HBA := hid hbare
    have HO' := hid hO'
    have HOLD := hid hold
    have HNEW := hid hnew
    have HBL := hid hbel
    clear hl' hbare hO' hold hnew hbel
    by_cases hlt : i < n
    · have hlt' : (i : Int) < n := by omega
      have hlt2 : i < l'.length := by have := HL'.out; omega
      have e1 := HOLD.out i (Nat.le_refl _) hlt
      have c2 : wr.cell? ⟨g, i * 3 + 2, none⟩ = some (.slice (qu l i).ca (qu l i).cn (qu l i).cc) := by
        rw [← e1]
        have hr := HO'.out.row
        rw [← HL'.out] at hr
        rw [hr.cellAt (i * 3 + 2) (by omega), quCells_at l' i 2 hlt2 (by omega)]
        rfl
      have f2 : wr.frozen? ⟨g, i * 3 + 2, none⟩ = false := by
        have hr := HO'.out.row
        rw [← HL'.out] at hr
        exact hr.frozenAt _
      have hr1 : RunsIn wr (qu l i).ca (qu l i).cn (qu l i).cc (qu l i).runs := by rw [← e1]; exact HO'.out.caps i hlt2
      have K := CloneRuns_any wr (qu l i).ca (qu l i).cn (qu l i).cc (qu l i).runs hr1 (HCS.out i hlt)
      have HQ := hid e1
      obtain ⟨Q, hQ⟩ : ∃ Q, qu l i = Q := ⟨_, rfl⟩
      rw [hQ] at K c2 HQ
      have HKK := hid K
      have F2 := hid f2
      have C2 := hid c2
      clear K hQ e1 hr1
      go_wp2_with fail
      refine HKK.out.mono ?_
      rintro e w2 ⟨a', k', rfl, hR, hb2, hnw⟩
      have c3 := cell_later hb2 C2.out
      have f3 : w2.frozen? ⟨g, i * 3 + 2, none⟩ = false := by rw [hb2.frozen (p := ⟨g, i * 3 + 2, none⟩) hgr]; exact F2.out
      have HR := hid hR
      have HB2 := hid hb2
      have HNW := hid hnw
      clear hR hb2 hnw c2 f2
      go_wp2
      go_roundw
      case rel =>
        have hO2 := (HO'.out.later HB2.out).store HL'.out hlt2 HR.out (fun _ b off e => by have := HNW.out b off e; omega)
        refine ⟨i + 1, _, by go_num, by omega, by rw [List.length_set]; exact HL'.out, ?_, hO2, fun j h1 h2 => ?_, fun j hj => ?_, ?_, ?_⟩
        · rw [bareQ_set hlt2 (by rw [HQ.out]; rfl)]
          exact HBA.out
        · rw [qu_set _ hlt2, if_neg (by omega)]
          exact HOLD.out j (by omega) h2
        · rw [qu_set _ hlt2]
          split
          · intro _ b off e
            have := HNW.out b off e
            have := HBL.out.size
            omega
          · exact HNEW.out j (by omega)
        · exact (below_from HBL.out HB2.out).setCell (p := ⟨g, i * 3 + 2, none⟩) hB _
        · have := HB2.out.size
          simp only [World.setCell, Array.size_modify]
          omega
      case measure => simp [intOf]; omega
    · obtain rfl : i = n := by omega
      go_wp2
      go_ret
      exact ⟨g, c', l', rfl, HO'.out, HL'.out, HBA.out, HBL.out, hle, HNEW.out⟩
set_option maxHeartbeats 1000000 in
theorem Request_any (w : World) (r : Rq) (h : RqIn w r) (hn : r.pn ≤ 1000) :
    Calls Tryz.prog 89 #[.agg #[.int .i64 r.queue, .int .i64 r.fr, .int .i64 r.un, .int .i64 r.kind, .slice r.pa r.pn r.pc]] w fun e w' => ∃ a' c', e = .returned (.agg #[.int .i64 r.queue, .int .i64 r.fr, .int .i64 r.un, .int .i64 r.kind, .slice a' r.pn c']) ∧ RunsIn w' a' r.pn c' r.ps ∧ Below w.heap.size w w' ∧ ∀ b off, a' = some ⟨b, off, none⟩ → w.heap.size ≤ b := by
  obtain ⟨W1, hW1⟩ : ∃ W1, W1 = (w.alloc (.cells #[.int .i64 r.queue, .int .i64 r.fr, .int .i64 r.un, .int .i64 r.kind, .slice r.pa r.pn r.pc] 24)).alloc (.cells #[.int .i64 0, .int .i64 0, .int .i64 0, .int .i64 0, .slice none 0 0] 24) := ⟨_, rfl⟩
  have hb0 : Below w.heap.size w W1 := by rw [hW1]; exact ((Below.refl _ _).alloc (Nat.le_refl _) _).alloc (by simp) _
  have K := ClonePieces_any W1 r.pa r.pn r.pc r.ps (RqIn.later h hb0) hn
  have hbx : W1.heap[w.heap.size]? = some (.cells #[.int .i64 r.queue, .int .i64 r.fr, .int .i64 r.un, .int .i64 r.kind, .slice r.pa r.pn r.pc] 24 (0, 0)) := by rw [hW1]; exact (Below.heap_alloc _ _ _ (by simp)).trans (heap_alloc_new w _)
  have hrs : W1.heap[w.heap.size + 1]? = some (.cells #[.int .i64 0, .int .i64 0, .int .i64 0, .int .i64 0, .slice none 0 0] 24 (0, 0)) := by
    have := heap_alloc_new (w.alloc (.cells #[.int .i64 r.queue, .int .i64 r.fr, .int .i64 r.un, .int .i64 r.kind, .slice r.pa r.pn r.pc] 24)) (.cells #[.int .i64 0, .int .i64 0, .int .i64 0, .int .i64 0, .slice none 0 0] 24)
    rw [World.size_alloc] at this
    rw [hW1]
    exact this
  have hsz : W1.heap.size = w.heap.size + 2 := by rw [hW1]; simp
  have HK := hid K
  have HW1 := hid hW1
  have HB0 := hid hb0
  have HBX := hid hbx
  have HRS := hid hrs
  have HSZ := hid hsz
  clear K hW1 hb0 hbx hrs hsz h
  go_enter Tryz.func89, Tryz.ntmps89
  go_wp2_with fail
  rw [← HW1.out]
  refine HK.out.mono ?_
  rintro e w1 ⟨a', k', rfl, hR, hb2, hnw⟩
  obtain ⟨g, hg⟩ : ∃ g, w.heap.size = g := ⟨_, rfl⟩
  have B1 : w1.heap[g]? = some (.cells #[.int .i64 r.queue, .int .i64 r.fr, .int .i64 r.un, .int .i64 r.kind, .slice r.pa r.pn r.pc] 24 (0, 0)) := by rw [← hg, hb2.block _ (by have := HSZ.out; omega)]; exact HBX.out
  have B2 : w1.heap[g + 1]? = some (.cells #[.int .i64 0, .int .i64 0, .int .i64 0, .int .i64 0, .slice none 0 0] 24 (0, 0)) := by rw [← hg, hb2.block _ (by have := HSZ.out; omega)]; exact HRS.out
  have hlt1 : g + 1 < w1.heap.size := by have := hb2.size; have := HSZ.out; omega
  have c4 : w1.cell? ⟨g, 4, none⟩ = some (.slice r.pa r.pn r.pc) := by rw [cell_of_row w1 g 4 _ _ _ B1]; rfl
  have f4 : w1.frozen? ⟨g, 4, none⟩ = false := frozen_of_row w1 g 4 _ _ B1
  have d0 : w1.cell? ⟨g, 0, none⟩ = some (.int .i64 r.queue) := by rw [cell_of_row w1 g 0 _ _ _ B1]; rfl
  have d1 : w1.cell? ⟨g, 1, none⟩ = some (.int .i64 r.fr) := by rw [cell_of_row w1 g 1 _ _ _ B1]; rfl
  have d2 : w1.cell? ⟨g, 2, none⟩ = some (.int .i64 r.un) := by rw [cell_of_row w1 g 2 _ _ _ B1]; rfl
  have d3 : w1.cell? ⟨g, 3, none⟩ = some (.int .i64 r.kind) := by rw [cell_of_row w1 g 3 _ _ _ B1]; rfl
  have e0 : w1.cell? ⟨g + 1, 0, none⟩ = some (.int .i64 0) := by rw [cell_of_row w1 (g + 1) 0 _ _ _ B2]; rfl
  have e1 : w1.cell? ⟨g + 1, 1, none⟩ = some (.int .i64 0) := by rw [cell_of_row w1 (g + 1) 1 _ _ _ B2]; rfl
  have e2 : w1.cell? ⟨g + 1, 2, none⟩ = some (.int .i64 0) := by rw [cell_of_row w1 (g + 1) 2 _ _ _ B2]; rfl
  have e3 : w1.cell? ⟨g + 1, 3, none⟩ = some (.int .i64 0) := by rw [cell_of_row w1 (g + 1) 3 _ _ _ B2]; rfl
  have e4 : w1.cell? ⟨g + 1, 4, none⟩ = some (.slice none 0 0) := by rw [cell_of_row w1 (g + 1) 4 _ _ _ B2]; rfl
  have f5 : ∀ k, w1.frozen? ⟨g + 1, k, none⟩ = false := fun k => frozen_of_row w1 (g + 1) k _ _ B2
  have HR := hid hR
  have HB2 := hid hb2
  have HNW := hid hnw
  have HG := hid hg
  have HX2 := hid B2
  rw [hg]
  clear hR hb2 hnw hg B1 B2
  go_wp2_with fail
  have X2 := HX2.out
  have hres := five_stores (w1.setCell ⟨g, 4, none⟩ (.slice a' r.pn k')) (g + 1) 24 _ _ _ _ _ (.int .i64 r.queue) (.int .i64 r.fr) (.int .i64 r.un) (.int .i64 r.kind) (.slice a' r.pn k') ((heap_setCell_other w1 ⟨g, 4, none⟩ (g + 1) _ (by simp)).trans X2)
  refine bodyPost_ret (v := .agg #[.int .i64 r.queue, .int .i64 r.fr, .int .i64 r.un, .int .i64 r.kind, .slice a' r.pn k']) (results_cell_row Tryz.results89 _ _ (g + 1) 24 #[.int .i64 r.queue, .int .i64 r.fr, .int .i64 r.un, .int .i64 r.kind, .slice a' r.pn k'] (0, 0) _ rfl hres.1 Tryz.underlying24 rfl (by kernel_rfl)) rfl ⟨a', k', rfl, ?_, ?_, ?_⟩
  · refine HR.out.of_away fun hp b off e => ?_
    have h1 := HNW.out b off e
    have h2 := HSZ.out
    have h3 := HG.out
    rw [hres.2 b (by omega), heap_setCell_other w1 ⟨g, 4, none⟩ b _ (by simp; omega)]
  · have h3 : w.heap.size ≤ g := by have := HG.out; omega
    have h4 : w.heap.size ≤ g + 1 := by omega
    exact ((((((below_from HB0.out HB2.out).setCell (p := ⟨g, 4, none⟩) h3 _).setCell (p := ⟨g + 1, 0, none⟩) h4 _).setCell (p := ⟨g + 1, 1, none⟩) h4 _).setCell (p := ⟨g + 1, 2, none⟩) h4 _).setCell (p := ⟨g + 1, 3, none⟩) h4 _).setCell (p := ⟨g + 1, 4, none⟩) h4 _
  · intro b off e
    have h1 := HNW.out b off e
    have h2 := HSZ.out
    omega
end Go.Proofs.YtckpdfkobdgjeaaGreatDoor
namespace Go.Proofs.YtckpdfkobdgjeaaGreatDoor
open Go.RowKit
theorem st_cells (w : World) (c n : Int) (ta : Option Addr) (tn tc : Nat) (ba : Option Addr) (bn bc : Nat) : ∀ X : World, Below (w.alloc (.cells #[.int .i64 c, .int .i64 n, .slice ta tn tc, .slice ba bn bc] 40)).heap.size (w.alloc (.cells #[.int .i64 c, .int .i64 n, .slice ta tn tc, .slice ba bn bc] 40)) X →
    X.cell? ⟨w.heap.size, 0, none⟩ = some (.int .i64 c) ∧ X.cell? ⟨w.heap.size, 1, none⟩ = some (.int .i64 n) ∧ X.cell? ⟨w.heap.size, 2, none⟩ = some (.slice ta tn tc) ∧ X.cell? ⟨w.heap.size, 3, none⟩ = some (.slice ba bn bc) := by
  intro X hX
  refine ⟨?_, ?_, ?_, ?_⟩ <;> (refine cell_later hX ?_; go_simp)
set_option maxHeartbeats 1000000 in
theorem overB_any (w : World) (x : Bk) (hr : RqIn w x.rq) (hb : RunsIn w x.ba x.bn x.bc x.bs) (t : Int) :
    Calls Tryz.prog 50 #[.agg #[.int .i64 x.id, .int .i64 x.rq.queue, .int .i64 x.rq.fr, .int .i64 x.rq.un, .int .i64 x.rq.kind, .slice x.rq.pa x.rq.pn x.rq.pc, .slice x.ba x.bn x.bc], .int .i64 t] w fun e w' => e = .returned (.bool (decide (overV x ≤ t))) ∧ Below w.heap.size w w' := by
  have B1 := hid ((Below.refl w.heap.size w).alloc (Nat.le_refl _) (.cells #[.int .i64 x.id, .int .i64 x.rq.queue, .int .i64 x.rq.fr, .int .i64 x.rq.un, .int .i64 x.rq.kind, .slice x.rq.pa x.rq.pn x.rq.pc, .slice x.ba x.bn x.bc] 60))
  have K := Over_any _ x.rq (hr.later B1.out) x.ba x.bn x.bc x.bs (hb.later B1.out)
  rw [show (if overOk x.rq x.bs = true then overMax x.rq x.bs x.bs.length else 0) = overV x from rfl] at K
  obtain ⟨V, hV⟩ : ∃ V, overV x = V := ⟨_, rfl⟩
  obtain ⟨E, hE⟩ : ∃ E : Int, (if overOk x.rq x.bs = true then (0 : Int) else 1) = E := ⟨_, rfl⟩
  rw [hV, hE] at K
  rw [hV]
  have HK := hid K
  clear K hV hE hr hb
  go_enter Tryz.func50, Tryz.ntmps50
  go_wp2_with fail
  refine HK.out.mono ?_
  rintro e w1 ⟨rfl, h1⟩
  have HB := hid (below_from B1.out h1)
  clear h1
  go_wp2
  go_ret
  exact ⟨rfl, HB.out⟩
theorem late1_any (w : World) (x : Bk) (hr : RqIn w x.rq) (hb : RunsIn w x.ba x.bn x.bc x.bs) (B : Nat) (t : Int) (hB : w.cell? ⟨B, 0, none⟩ = some (.int .i64 t)) :
    Calls Tryz.prog 49 #[.agg #[.int .i64 x.id, .int .i64 x.rq.queue, .int .i64 x.rq.fr, .int .i64 x.rq.un, .int .i64 x.rq.kind, .slice x.rq.pa x.rq.pn x.rq.pc, .slice x.ba x.bn x.bc], .pointer (some ⟨B, 0, none⟩)] w fun e w' => e = .returned (.bool (decide (overV x ≤ t))) ∧ Below w.heap.size w w' := by
  have B1 := hid ((Below.refl w.heap.size w).alloc (Nat.le_refl _) (.cells #[.int .i64 x.id, .int .i64 x.rq.queue, .int .i64 x.rq.fr, .int .i64 x.rq.un, .int .i64 x.rq.kind, .slice x.rq.pa x.rq.pn x.rq.pc, .slice x.ba x.bn x.bc] 60))
  have K := overB_any _ x (hr.later B1.out) (hb.later B1.out) t
  obtain ⟨V, hV⟩ : ∃ V, decide (overV x ≤ t) = V := ⟨_, rfl⟩
  rw [hV] at K
  rw [hV]
  have K := hid K
  clear hV
  have c0 := cell_later ((Below.refl w.heap.size w).alloc (Nat.le_refl _) (.cells #[.int .i64 x.id, .int .i64 x.rq.queue, .int .i64 x.rq.fr, .int .i64 x.rq.un, .int .i64 x.rq.kind, .slice x.rq.pa x.rq.pn x.rq.pc, .slice x.ba x.bn x.bc] 60)) hB
  clear hr hb hB
  go_enter Tryz.func49, Tryz.ntmps49
  go_wp2_with fail
  refine K.out.mono ?_
  rintro e w1 ⟨rfl, h1⟩
  have HB := hid (below_from B1.out h1)
  clear h1
  go_wp2
  go_ret
  exact ⟨rfl, HB.out⟩
set_option maxHeartbeats 1000000 in
theorem rising_any (w : World) (a : Option Addr) (n cap : Nat) (b : BL) (h : BksIn w a n cap b) (next : Int) (hn : next ≤ 1048576) :
    Calls Tryz.prog 47 #[.slice a n cap, .int .i64 next] w fun e w' => e = .returned (.bool (risB b next)) ∧ Below w.heap.size w w' := by
  have HN := hid h.len
  have hle := h.le
  have hbd := h.capb
  have HC := hid h.cells
  clear h
  go_enter Tryz.func47, Tryz.ntmps47
  go_wp2
  go_loopw [5, 7, 10] (fun p _ st wr => ∃ k : Nat, st = .int .i64 k ∧ k ≤ n ∧ p = .int .i64 (leastId b k) ∧ 0 ≤ leastId b k ∧ allN (idOk b next) k = true ∧ Below w.heap.size w wr) (fun _ _ st _ => n - (intOf st).toNat)
  case atStart => exact ⟨0, rfl, by omega, rfl, by simp [leastId], rfl, Below.refl _ _⟩
  case round =>
    obtain ⟨j, rfl, hj, rfl, hl0, hall, hbel⟩ := hrel
    have HA := hid hall
    have HB := hid hbel
    clear hall hbel
    by_cases hlt : j < n
    · have hlt' : (j : Int) < n := by omega
      obtain ⟨bb, off, rfl, hc⟩ := HC.out (by omega)
      obtain ⟨c0, c1, c2, c3, c4, c5, c6⟩ := hc j hlt
      replace c0 := cell_later HB.out c0
      replace c1 := cell_later HB.out c1
      replace c2 := cell_later HB.out c2
      replace c3 := cell_later HB.out c3
      replace c4 := cell_later HB.out c4
      replace c5 := cell_later HB.out c5
      replace c6 := cell_later HB.out c6
      clear hc
      have hok : idOk b next j = decide (leastId b j ≤ (bk b j).id ∧ (bk b j).id < next) := rfl
      have hnx : leastId b (j + 1) = (bk b j).id + 1 := by unfold leastId; rw [if_neg (by omega)]; rfl
      obtain ⟨X, hX⟩ : ∃ X, bk b j = X := ⟨_, rfl⟩
      rw [hX] at c0 c1 c2 c3 c4 c5 c6 hok hnx
      obtain ⟨L, hL⟩ : ∃ L, leastId b j = L := ⟨_, rfl⟩
      rw [hL] at hok hl0 ⊢
      have HOK := hid hok
      have HNX := hid hnx
      have hbe : Below w.heap.size w (wr.alloc (.cells #[.int .i64 X.id, .int .i64 X.rq.queue, .int .i64 X.rq.fr, .int .i64 X.rq.un, .int .i64 X.rq.kind, .slice X.rq.pa X.rq.pn X.rq.pc, .slice X.ba X.bn X.bc] 60)) := HB.out.alloc HB.out.size _
      have HBE := hid hbe
      clear hX hL hok hnx hbe
      by_cases g1 : X.id < L
      · go_wp2
        go_ret
        refine ⟨ret_bool ?_, HBE.out⟩
        show false = allN (idOk b next) b.length
        rw [← HN.out, allN_false (p := idOk b next) (k := j) (by rw [HOK.out]; exact decide_eq_false (by omega)) n hlt]
      · by_cases g2 : next ≤ X.id
        · go_wp2
          go_ret
          refine ⟨ret_bool ?_, HBE.out⟩
          show false = allN (idOk b next) b.length
          rw [← HN.out, allN_false (p := idOk b next) (k := j) (by rw [HOK.out]; exact decide_eq_false (by omega)) n hlt]
        · go_wp2
          go_roundw
          case rel => exact ⟨j + 1, by go_num, by omega, by first | (rw [HNX.out]; done) | (rw [HNX.out]; go_num), by rw [HNX.out]; omega, by rw [allN, HA.out, HOK.out]; simp; omega, HBE.out⟩
          case measure => simp [intOf]; omega
    · obtain rfl : j = n := by omega
      go_wp2
      go_ret
      exact ⟨ret_bool (by show true = allN (idOk b next) b.length; rw [← HN.out]; exact HA.out.symm), HB.out⟩
def StIn (w : World) (ta : Option Addr) (tn tc : Nat) (l : QL) (ba : Option Addr) (bn bc : Nat) (b : BL) : Prop := QsIn w ta tn tc l ∧ BksIn w ba bn bc b
theorem StIn.later {w w' : World} {ta : Option Addr} {tn tc : Nat} {l : QL} {ba : Option Addr} {bn bc : Nat} {b : BL} (h : StIn w ta tn tc l ba bn bc b) (hb : Below w.heap.size w w') : StIn w' ta tn tc l ba bn bc b := ⟨h.1.later hb, h.2.later hb⟩
set_option maxRecDepth 100000 in
set_option maxHeartbeats 2000000 in
theorem CheckS_any (w : World) (c n : Int) (ta : Option Addr) (tn tc : Nat) (l : QL) (ba : Option Addr) (bn bc : Nat) (b : BL) (h : StIn w ta tn tc l ba bn bc b) :
    Calls Tryz.prog 20 #[.agg #[.int .i64 c, .int .i64 n, .slice ta tn tc, .slice ba bn bc]] w fun e w' => e = .returned (.int .i64 (planE c n l b)) ∧ Below w.heap.size w w' := by
  have B1 := hid ((Below.refl w.heap.size w).alloc (Nat.le_refl _) (.cells #[.int .i64 c, .int .i64 n, .slice ta tn tc, .slice ba bn bc] 40))
  have KS := hid (st_cells w c n ta tn tc ba bn bc)
  have K1 := Of_any _ ta tn tc l (h.1.later B1.out) ba bn bc b (h.2.later B1.out)
  have HL := hid h.1
  have HBK := hid h.2
  clear h
  by_cases h1 : chkL l b = 0
  · have hC := hid (clean_of h1)
    have hE : planE c n l b = if (0 ≤ c ∧ c ≤ 48) ∧ (0 ≤ n ∧ n ≤ 1048576) then (if risB b n = true then (if lateB b c = true then 9 else (if fitsR l b c = true then 0 else 10)) else 1) else 3 := if_pos h1
    rw [hE]
    rw [h1] at K1
    have HK1 := hid K1
    clear h1 hE K1
    by_cases h2 : (0 ≤ c ∧ c ≤ 48) ∧ (0 ≤ n ∧ n ≤ 1048576)
    · rw [if_pos h2]
      obtain ⟨⟨c0, c48⟩, n0, n1⟩ := h2
      have hc0 : ¬ c < 0 := by omega
      have hc1 : ¬ (48 : Int) < c := by omega
      have hn0 : ¬ n < 0 := by omega
      have hn1 : ¬ (1048576 : Int) < n := by omega
      have KR := hid fun X (hX : Below w.heap.size w X) => rising_any X ba bn bc b (HBK.out.later hX) n n1
      have KC := hid fun X (hX : Below w.heap.size w X) (cl : X.cell? ⟨w.heap.size, 0, none⟩ = some (.int .i64 c)) =>
        ContainsBk_any 49 #[.pointer (some ⟨w.heap.size, 0, none⟩)] (fun x => !decide (overV x ≤ c)) (fun args w => by go_simp) X ba bn bc b (HBK.out.later hX)
          (fun w' hw' x hr hbs => (late1_any w' x hr hbs w.heap.size c (cell_later hw' cl)).mono fun r w'' q => ⟨by rw [q.1]; simp, q.2⟩)
      have KF := hid fun X (hX : Below w.heap.size w X) => Fits_any X ta tn tc l (HL.out.later hX) ba bn bc b (HBK.out.later hX) c
      rw [HBK.out.len, show (!allN (fun i => (fun x => !decide (overV x ≤ c)) (bk b i)) b.length) = lateB b c from rfl] at KC
      rw [← HBK.out.len] at KC
      rw [fitsE_ok hC.out c0 c48] at KF
      obtain ⟨R, hR⟩ : ∃ R, risB b n = R := ⟨_, rfl⟩
      obtain ⟨L, hL⟩ : ∃ L, lateB b c = L := ⟨_, rfl⟩
      obtain ⟨F, hF⟩ : ∃ F, fitsR l b c = F := ⟨_, rfl⟩
      rw [hR] at KR
      rw [hL] at KC
      rw [hF] at KF
      rw [hR, hL, hF]
      clear hR hL hF c0 c48 n0 n1
      go_enter Tryz.func20, Tryz.ntmps20
      go_wp2_with fail
      refine HK1.out.mono ?_
      rintro e w1 ⟨a1, m1, k1, rfl, _, _, hb⟩
      obtain ⟨d0, d1, d2, d3⟩ := KS.out w1 hb
      have HB1 := hid (below_from B1.out hb)
      have HB1' := hid hb
      clear hb
      go_wp2_with fail
      refine (KR.out w1 HB1.out).mono ?_
      rintro e w2 ⟨rfl, hb⟩
      obtain ⟨e0, e1, e2, e3⟩ := KS.out w2 (below_from HB1'.out hb)
      have HB2 := hid (below_from HB1.out hb)
      have HB2' := hid (below_from HB1'.out hb)
      clear hb d0 d1 d2 d3
      cases R with
      | false =>
        go_wp2
        go_ret
        exact ⟨rfl, HB2.out⟩
      | true =>
        go_wp2_with fail
        refine (KC.out w2 HB2.out e0).mono ?_
        rintro e w3 ⟨rfl, hb⟩
        obtain ⟨f0, f1, f2, f3⟩ := KS.out w3 (below_from HB2'.out hb)
        have HB3 := hid (below_from HB2.out hb)
        clear hb e0 e1 e2 e3
        cases L with
        | true =>
          go_wp2
          go_ret
          exact ⟨rfl, HB3.out⟩
        | false =>
          go_wp2_with fail
          refine (KF.out w3 HB3.out).mono ?_
          rintro e w4 ⟨rfl, hb⟩
          have HB4 := hid (below_from HB3.out hb)
          clear hb f0 f1 f2 f3
          cases F
          all_goals
            go_wp2
            go_ret
            exact ⟨rfl, HB4.out⟩
    · rw [if_neg h2]
      go_enter Tryz.func20, Tryz.ntmps20
      go_wp2_with fail
      refine HK1.out.mono ?_
      rintro e w1 ⟨a1, m1, k1, rfl, _, _, hb⟩
      obtain ⟨d0, d1, d2, d3⟩ := KS.out w1 hb
      have HB1 := hid (below_from B1.out hb)
      clear hb
      by_cases g1 : c < 0
      · go_wp2
        go_ret
        exact ⟨rfl, HB1.out⟩
      · by_cases g2 : (48 : Int) < c
        · go_wp2
          go_ret
          exact ⟨rfl, HB1.out⟩
        · by_cases g3 : n < 0
          · go_wp2
            go_ret
            exact ⟨rfl, HB1.out⟩
          · have g4 : (1048576 : Int) < n := by omega
            go_wp2
            go_ret
            exact ⟨rfl, HB1.out⟩
  · have hE : planE c n l b = chkL l b := if_neg h1
    rw [hE]
    obtain ⟨er, her⟩ : ∃ er, chkL l b = er := ⟨_, rfl⟩
    rw [her] at K1 h1
    rw [her]
    have hne : (er != 0) = true := by simp [h1]
    have HK1 := hid K1
    clear hE K1 h1 her
    go_enter Tryz.func20, Tryz.ntmps20
    go_wp2_with fail
    refine HK1.out.mono ?_
    rintro e w1 ⟨a1, m1, k1, rfl, _, _, hb⟩
    have HB1 := hid (below_from B1.out hb)
    clear hb
    go_wp2
    go_ret
    exact ⟨rfl, HB1.out⟩
end Go.Proofs.YtckpdfkobdgjeaaGreatDoor
namespace Go.Proofs.YtckpdfkobdgjeaaGreatDoor
open Go.RowKit
def behindTo (ops : Array Oper) (c : Nat) : Nat → List Nat
  | 0 => []
  | n + 1 => if (match ops[n]? with | some o => waitsFor o c || (behindTo ops c n).any (waitsFor o) | none => false) = true then n :: behindTo ops c n else behindTo ops c n
theorem behind_listed {ops : Array Oper} {c : Nat} {listed : Array Bool} (hcl : ∀ i o, ops[i]? = some o → listed.getD i false = true → ∀ j, waitsFor o j = true → listed.getD j false = true) : ∀ {n i : Nat}, i ∈ behindTo ops c n → listed.getD i false = true → listed.getD c false = true
  | 0, i, h, _ => by simp [behindTo] at h
  | n + 1, i, h, hl => by
    rw [behindTo] at h
    cases hw : (match ops[n]? with | some o => waitsFor o c || (behindTo ops c n).any (waitsFor o) | none => false) with
    | false =>
      rw [hw] at h
      exact behind_listed hcl (by simpa using h) hl
    | true =>
      rw [hw, if_pos rfl] at h
      rcases List.mem_cons.1 h with e | h
      · subst e
        cases ho : ops[i]? with
        | none => rw [ho] at hw; cases hw
        | some o =>
          rw [ho] at hw
          simp only [Bool.or_eq_true, List.any_eq_true] at hw
          rcases hw with hw | ⟨j, hj, hw⟩
          · exact hcl i o ho hl c hw
          · exact behind_listed hcl hj (hcl i o ho hl j hw)
      · exact behind_listed hcl h hl
def dd (cs : List (Nat × List Nat)) (i : Nat) : Option (List Nat) := (cs.find? fun x => x.1 == i).map (·.2)
theorem dd_mem {cs : List (Nat × List Nat)} {c : Nat} {dead : List Nat} (h : dd cs c = some dead) : (c, dead) ∈ cs := by
  unfold dd at h
  cases hf : cs.find? fun x => x.1 == c with
  | none => rw [hf] at h; cases h
  | some x =>
    rw [hf] at h
    have h1 := List.find?_some hf
    have h2 := List.mem_of_find?_eq_some hf
    simp at h1 h
    rw [← h1, ← h]
    exact h2
def spoilt (cs : List (Nat × List Nat)) (listed : Array Bool) (i : Nat) : Prop := ∃ c dead, dd cs c = some dead ∧ listed.getD c false = true ∧ dead.contains i = true
def spoiltB (cs : List (Nat × List Nat)) (i : Nat) : Bool := cs.any fun x => x.2.contains i
def slotV (o : Oper) (T : Array Value) : Value := match o.dst with
  | some d => T.getD d undef
  | none => undef
def noDst (ops : Array Oper) (i : Nat) : Bool := match ops[i]? with
  | some o => o.dst == none
  | none => false
end Go.Proofs.YtckpdfkobdgjeaaGreatDoor
namespace Go.Proofs.YtckpdfkobdgjeaaGreatDoor
open Go.RowKit
theorem bk_set {b : BL} {j : Nat} (x : Bk) (hj : j < b.length) (i : Nat) : bk (b.set j x) i = if i = j then x else bk b i := by
  unfold bk
  rw [List.getD_eq_getElem?_getD, List.getD_eq_getElem?_getD, List.getElem?_set]
  by_cases e : j = i
  · subst e; simp [hj]
  · rw [if_neg e, if_neg (Ne.symm e)]
theorem bareB_set {b : BL} {j : Nat} {x : Bk} (hj : j < b.length) (hx : x.bare = (bk b j).bare) : bareB (b.set j x) = bareB b := by
  apply List.ext_getElem?
  intro i
  unfold bareB
  rw [List.getElem?_map, List.getElem?_map, List.getElem?_set]
  by_cases e : j = i
  · subst e
    rw [if_pos rfl, if_pos hj]
    have e2 : b[j]? = some (bk b j) := by rw [List.getElem?_eq_getElem hj, bk_get hj]
    rw [e2]
    simp [hx]
  · rw [if_neg e]
theorem bkCells_setReq : ∀ (b : BL) (j : Nat) (q fr un kd : Int) (a : Option Addr) (n c : Nat) (rs : RunL), j < b.length →
    bkCells (b.set j ⟨(bk b j).id, ⟨q, fr, un, kd, a, n, c, rs⟩, (bk b j).ba, (bk b j).bn, (bk b j).bc, (bk b j).bs⟩) = (((((bkCells b).set (j * 7 + 1) (.int .i64 q)).set (j * 7 + 2) (.int .i64 fr)).set (j * 7 + 3) (.int .i64 un)).set (j * 7 + 4) (.int .i64 kd)).set (j * 7 + 5) (.slice a n c)
  | [], j, q, fr, un, kd, a, n, c, rs, h => by simp at h
  | x :: b, 0, q, fr, un, kd, a, n, c, rs, _ => rfl
  | x :: b, j + 1, q, fr, un, kd, a, n, c, rs, h => by
    have ih := bkCells_setReq b j q fr un kd a n c rs (by simpa using h)
    rw [List.set_cons_succ, bkCells, bkCells, show (j + 1) * 7 + 1 = j * 7 + 1 + 1 + 1 + 1 + 1 + 1 + 1 + 1 from by omega, show (j + 1) * 7 + 2 = j * 7 + 2 + 1 + 1 + 1 + 1 + 1 + 1 + 1 from by omega, show (j + 1) * 7 + 3 = j * 7 + 3 + 1 + 1 + 1 + 1 + 1 + 1 + 1 from by omega, show (j + 1) * 7 + 4 = j * 7 + 4 + 1 + 1 + 1 + 1 + 1 + 1 + 1 from by omega, show (j + 1) * 7 + 5 = j * 7 + 5 + 1 + 1 + 1 + 1 + 1 + 1 + 1 from by omega]
    show bkCell x ++ bkCells (b.set j ⟨(bk b j).id, ⟨q, fr, un, kd, a, n, c, rs⟩, (bk b j).ba, (bk b j).bn, (bk b j).bc, (bk b j).bs⟩) = _
    rw [ih]
    rfl
theorem bkCells_setBites : ∀ (b : BL) (j : Nat) (a : Option Addr) (n c : Nat) (rs : RunL), j < b.length → bkCells (b.set j ⟨(bk b j).id, (bk b j).rq, a, n, c, rs⟩) = (bkCells b).set (j * 7 + 6) (.slice a n c)
  | [], j, a, n, c, rs, h => by simp at h
  | x :: b, 0, a, n, c, rs, _ => rfl
  | x :: b, j + 1, a, n, c, rs, h => by
    have ih := bkCells_setBites b j a n c rs (by simpa using h)
    rw [List.set_cons_succ, bkCells, bkCells, show (j + 1) * 7 + 6 = j * 7 + 6 + 1 + 1 + 1 + 1 + 1 + 1 + 1 from by omega]
    show bkCell x ++ bkCells (b.set j ⟨(bk b j).id, (bk b j).rq, a, n, c, rs⟩) = _
    rw [ih]
    rfl
structure OwnBks (w : World) (B : Nat) (v : Value) (b : BL) : Prop where
  row : w.ownsRow B 60 7 v b.length (bkCells b)
  rqs : ∀ i, i < b.length → RqIn w (bk b i).rq
  bites : ∀ i, i < b.length → RunsIn w (bk b i).ba (bk b i).bn (bk b i).bc (bk b i).bs
  farP : ∀ i, i < b.length → 0 < (bk b i).rq.pn → ∀ g off, (bk b i).rq.pa = some ⟨g, off, none⟩ → v.ownBlock ≠ some g
  farB : ∀ i, i < b.length → 0 < (bk b i).bn → ∀ g off, (bk b i).ba = some ⟨g, off, none⟩ → v.ownBlock ≠ some g
theorem OwnBks.later {w w' : World} {B : Nat} {v : Value} {b : BL} (h : OwnBks w B v b) (hb : Below w.heap.size w w') : OwnBks w' B v b :=
  ⟨ownsRow_later h.row hb, fun i hi => (h.rqs i hi).later hb, fun i hi => (h.bites i hi).later hb, h.farP, h.farB⟩
theorem OwnBks.bks {w : World} {B : Nat} {v : Value} {b : BL} (h : OwnBks w B v b) : ∃ a cap, v = .slice a b.length cap ∧ BksIn w a b.length cap b ∧ ∀ g off, a = some ⟨g, off, none⟩ → B ≤ g ∧ off = 0 :=
  own_bks h.row (fun x hx => by obtain ⟨i, hi, rfl⟩ := mem_bk hx; exact h.rqs i hi) (fun x hx => by obtain ⟨i, hi, rfl⟩ := mem_bk hx; exact h.bites i hi)
theorem own_ne {g n c b : Nat} : (Value.slice (some ⟨g, 0, none⟩) n c).ownBlock ≠ some b ↔ g ≠ b := by simp [Value.ownBlock]
theorem RunsIn.set5 {w : World} {a : Option Addr} {n cap : Nat} {l : RunL} (h : RunsIn w a n cap l) {g o1 o2 o3 o4 o5 : Nat} (u1 u2 u3 u4 u5 : Value) (hb : 0 < n → ∀ b off, a = some ⟨b, off, none⟩ → b ≠ g) :
    RunsIn (((((w.setCell ⟨g, o1, none⟩ u1).setCell ⟨g, o2, none⟩ u2).setCell ⟨g, o3, none⟩ u3).setCell ⟨g, o4, none⟩ u4).setCell ⟨g, o5, none⟩ u5) a n cap l :=
  ((((h.set_away _ _ hb).set_away _ _ hb).set_away _ _ hb).set_away _ _ hb).set_away _ _ hb
theorem OwnBks.storeReq {w : World} {B g n c : Nat} {b : BL} (h : OwnBks w B (.slice (some ⟨g, 0, none⟩) n c) b) (hn : n = b.length) {j : Nat} (hj : j < b.length) {q fr un kd : Int} {a : Option Addr} {m k : Nat} {rs : RunL} (hr : RunsIn w a m k rs) (hf : 0 < m → ∀ b' off, a = some ⟨b', off, none⟩ → b' ≠ g) :
    OwnBks (((((w.setCell ⟨g, j * 7 + 1, none⟩ (.int .i64 q)).setCell ⟨g, j * 7 + 2, none⟩ (.int .i64 fr)).setCell ⟨g, j * 7 + 3, none⟩ (.int .i64 un)).setCell ⟨g, j * 7 + 4, none⟩ (.int .i64 kd)).setCell ⟨g, j * 7 + 5, none⟩ (.slice a m k)) B (.slice (some ⟨g, 0, none⟩) n c)
      (b.set j ⟨(bk b j).id, ⟨q, fr, un, kd, a, m, k, rs⟩, (bk b j).ba, (bk b j).bn, (bk b j).bc, (bk b j).bs⟩) := by
  subst hn
  have hl : (b.set j ⟨(bk b j).id, ⟨q, fr, un, kd, a, m, k, rs⟩, (bk b j).ba, (bk b j).bn, (bk b j).bc, (bk b j).bs⟩).length = b.length := List.length_set
  refine ⟨?_, fun i hi => ?_, fun i hi => ?_, fun i hi => ?_, fun i hi => ?_⟩
  · rw [hl, bkCells_setReq b j q fr un kd a m k rs hj]
    exact (((((h.row.stored _ _).1.stored _ _).1.stored _ _).1.stored _ _).1.stored _ _).1
  all_goals rw [hl] at hi
  · rw [bk_set _ hj]
    split
    · exact RunsIn.set5 hr _ _ _ _ _ hf
    · exact RunsIn.set5 (h.rqs i hi) _ _ _ _ _ fun hp b' off e => Ne.symm (own_ne.1 (h.farP i hi hp b' off e))
  · rw [bk_set _ hj]
    split
    · exact RunsIn.set5 (h.bites j hj) _ _ _ _ _ fun hp b' off e => Ne.symm (own_ne.1 (h.farB j hj hp b' off e))
    · exact RunsIn.set5 (h.bites i hi) _ _ _ _ _ fun hp b' off e => Ne.symm (own_ne.1 (h.farB i hi hp b' off e))
  · rw [bk_set _ hj]
    split
    · exact fun hp b' off e => own_ne.2 (Ne.symm (hf hp b' off e))
    · exact h.farP i hi
  · rw [bk_set _ hj]
    split
    · exact h.farB j hj
    · exact h.farB i hi
theorem OwnBks.storeBites {w : World} {B g n c : Nat} {b : BL} (h : OwnBks w B (.slice (some ⟨g, 0, none⟩) n c) b) (hn : n = b.length) {j : Nat} (hj : j < b.length) {a : Option Addr} {m k : Nat} {rs : RunL} (hr : RunsIn w a m k rs) (hf : 0 < m → ∀ b' off, a = some ⟨b', off, none⟩ → b' ≠ g) :
    OwnBks (w.setCell ⟨g, j * 7 + 6, none⟩ (.slice a m k)) B (.slice (some ⟨g, 0, none⟩) n c) (b.set j ⟨(bk b j).id, (bk b j).rq, a, m, k, rs⟩) := by
  subst hn
  have hl : (b.set j ⟨(bk b j).id, (bk b j).rq, a, m, k, rs⟩).length = b.length := List.length_set
  refine ⟨?_, fun i hi => ?_, fun i hi => ?_, fun i hi => ?_, fun i hi => ?_⟩
  · rw [hl, bkCells_setBites b j a m k rs hj]
    exact (h.row.stored _ _).1
  all_goals rw [hl] at hi
  · rw [bk_set _ hj]
    split
    · exact RunsIn.set_away (h.rqs j hj) _ _ fun hp b' off e => Ne.symm (own_ne.1 (h.farP j hj hp b' off e))
    · exact RunsIn.set_away (h.rqs i hi) _ _ fun hp b' off e => Ne.symm (own_ne.1 (h.farP i hi hp b' off e))
  · rw [bk_set _ hj]
    split
    · exact hr.set_away _ _ hf
    · exact (h.bites i hi).set_away _ _ fun hp b' off e => Ne.symm (own_ne.1 (h.farB i hi hp b' off e))
  · rw [bk_set _ hj]
    split
    · exact h.farP j hj
    · exact h.farP i hi
  · rw [bk_set _ hj]
    split
    · exact fun hp b' off e => own_ne.2 (Ne.symm (hf hp b' off e))
    · exact h.farB i hi
end Go.Proofs.YtckpdfkobdgjeaaGreatDoor
namespace Go.Proofs.YtckpdfkobdgjeaaGreatDoor
open Go.RowKit
theorem wpAny_last {P : Program} {ops : Array Oper} {Q : Exit → Act → World → Prop} {W0 : World} {T0 : Array Value} {df : List Deferred} {D : Nat → Value → World → Prop} {gs : List (Nat × Bool)} {c : Nat}
    (hlo : lastOk ops c = true)
    (hok : regOk ops gs T0.size = true) (hg : ∀ g ∈ gs, ∃ o d, ops[g.1]? = some o ∧ o.dst = some d ∧ ∀ v w, D g.1 v w → v = .bool g.2)
    (hD : ∀ i v w w', D i v w → Below w.heap.size w w' → D i v w')
    (hstep : ∀ i o, ops[i]? = some o → i ≠ c → ∀ (T : Array Value) (w : World), Below W0.heap.size W0 w → (∀ d, notDst ops d = true → T.getD d undef = T0.getD d undef) →
      (∀ j oj d, ops[j]? = some oj → oj.dst = some d → waitsFor o j = true → D j (T.getD d undef) w) → OpDoes P o (Act.eval ⟨T, df⟩) w (D i))
    (hlast : ∀ o, ops[c]? = some o → ∀ (T : Array Value) (w : World), Below W0.heap.size W0 w → T.size = T0.size → (∀ d, notDst ops d = true → T.getD d undef = T0.getD d undef) → (∀ i oi d, ops[i]? = some oi → i ≠ c → oi.dst = some d → D i (T.getD d undef) w) →
      ∃ w', (execOp (Act.eval ⟨T, df⟩) o).run P w = .ok .skip w' ∧ Q .normal (Act.put ⟨T, df⟩ o.dst undef) w') :
    ∀ (fuel : Nat) (listed : Array Bool) (a : Act) (w : World), unlisted listed ≤ fuel → RInvI ops c W0 T0 df D listed a w → wpAny P .any ops Q fuel listed a w := by
  have hsz := (lastOk_at hlo).1
  intro fuel
  induction fuel with
  | zero =>
    intro listed a w hf I
    have := unlisted_set I.open_
    omega
  | succ fuel ih =>
    intro listed a w hf I
    refine ⟨fun hr => ?_, fun i hi => ?_⟩
    · have h1 := all_listed hok I.inv.size hr c (by omega)
      have h2 := I.open_
      have : c < listed.size := by have := I.inv.size; omega
      simp only [Array.getD, this, dite_true] at h1 h2
      rw [h1] at h2
      cases h2
    obtain ⟨h0, o, ho, hall⟩ := mem_ready.1 hi
    have hcount := unlisted_set h0
    obtain ⟨T, ds⟩ := a
    obtain rfl : ds = df := I.inv.df
    have hat := regOk_at hok ho
    have hwt : ∀ j, waitsFor o j = true → listed.getD j false = true := by
      intro j hw
      simp only [waitsFor, List.any_eq_true, Bool.and_eq_true, beq_iff_eq] at hw
      obtain ⟨e, he, hb, rfl⟩ := hw
      exact hall e (by simpa using he) hb
    have hdep : ∀ j oj d, ops[j]? = some oj → oj.dst = some d → waitsFor o j = true → D j (T.getD d undef) w := fun j oj d hj hd hw => I.inv.got _ oj d hj hd (hwt j hw)
    have hw : Region.wanted o (yielded ops T) = true := by
      unfold Region.wanted
      cases hgd : o.guard with
      | none => rfl
      | some g =>
        obtain ⟨h1, h2⟩ := hat.2.2 g hgd
        obtain ⟨og, d, hog, hdg, hv⟩ := hg g h2
        have := hv _ _ (hdep g.1 og d hog hdg h1)
        have hdl : d < T.size := Nat.lt_of_lt_of_eq ((regOk_at hok hog).2.1 d hdg) I.inv.tsize.symm
        simp [yielded_of hog hdg hdl this]
    unfold wpOp
    simp only [ho, hw, if_true]
    refine Or.inl ?_
    unfold Oper.wp
    by_cases hic : i = c
    · subst hic
      obtain ⟨w', hrun, hq⟩ := hlast o ho T w I.inv.below I.inv.tsize I.inv.old (fun j oj d hj hne hd => I.inv.got j oj d hj hd
        (closed_all hlo I.closed (fun o' ho' => by rw [ho] at ho'; cases ho'; exact hwt) _ j rfl (by have := (Array.getElem?_eq_some_iff.1 hj).1; omega)))
      rw [hrun]
      refine wpAny_done ?_ hq fuel
      cases hr : Region.ready .any ops (listed.setIfInBounds i true) with
      | nil => rfl
      | cons j js =>
        have hj : j ∈ Region.ready .any ops (listed.setIfInBounds i true) := by rw [hr]; simp
        obtain ⟨g0, oj, hoj, _⟩ := mem_ready.1 hj
        have hjl : j < listed.size := by have := (Array.getElem?_eq_some_iff.1 hoj).1; have := I.inv.size; omega
        by_cases e : i = j
        · subst e
          simp [hjl] at g0
        · rw [getD_set_ne true e] at g0
          have h1 := closed_all hlo I.closed (fun o' ho' => by rw [ho] at ho'; cases ho'; exact hwt) _ j rfl (by have := (Array.getElem?_eq_some_iff.1 hoj).1; omega)
          simp only [Array.getD, hjl, dite_true] at h1 g0
          rw [h1] at g0
          cases g0
    have hdo := hstep i o ho hic T w I.inv.below I.inv.old hdep
    have next : ∀ (v : Value) (w' : World), D i v w' → Below w.heap.size w w' → wpAny P .any ops Q fuel (listed.setIfInBounds i true) (Act.put ⟨T, ds⟩ o.dst v) w' := by
      intro v w' hv hb
      refine ih _ _ _ (by omega) ⟨?_, by rw [getD_set_ne true hic]; exact I.open_, fun j oj hj hl k hk => ?_⟩
      · cases hd : o.dst with
        | none =>
          refine ⟨by simpa using I.inv.size, I.inv.below.trans (hb.mono I.inv.below.size), rfl, I.inv.tsize, I.inv.old, fun j oj d hj hdj hl => ?_⟩
          by_cases e : i = j
          · subst e
            rw [ho] at hj
            cases hj
            rw [hd] at hdj
            cases hdj
          · rw [getD_set_ne false e] at hl
            exact hD _ _ _ _ (I.inv.got j oj d hj hdj hl) hb
        | some d0 =>
          have hd0 : d0 < T.size := Nat.lt_of_lt_of_eq (hat.2.1 d0 hd) I.inv.tsize.symm
          refine ⟨by simpa using I.inv.size, I.inv.below.trans (hb.mono I.inv.below.size), rfl, by simpa [Act.put] using I.inv.tsize, fun d hnd => ?_, fun j oj d hj hdj hl => ?_⟩
          · have hne : d0 ≠ d := by
              rintro rfl
              simp only [notDst, Array.all_eq_true_iff_forall_mem] at hnd
              have := hnd o (Array.mem_of_getElem? ho)
              simp [hd] at this
            have := I.inv.old d hnd
            simp only [Act.put] at this ⊢
            rw [← this]
            simp [Array.getElem?_setIfInBounds_ne hne]
          · by_cases e : i = j
            · subst e
              rw [ho] at hj
              cases hj
              rw [hd] at hdj
              cases hdj
              simpa [Act.put, hd0] using hv
            · have hne : d0 ≠ d := by
                rintro rfl
                exact e (regOk_dst hok ho hj hd hdj)
              rw [getD_set_ne false e] at hl
              have := hD _ _ _ _ (I.inv.got j oj d hj hdj hl) hb
              simp only [Act.put] at this ⊢
              simpa [Array.getElem?_setIfInBounds_ne hne] using this
      · have hset : ∀ m, listed.getD m false = true → (listed.setIfInBounds i true).getD m false = true := fun m hm => by
          by_cases e : i = m
          · subst e
            have : i < listed.size := by have := (Array.getElem?_eq_some_iff.1 ho).1; have := I.inv.size; omega
            simp [this]
          · rw [getD_set_ne false e]; exact hm
        by_cases e : i = j
        · subst e
          rw [ho] at hj
          cases hj
          exact hset k (hwt k hk)
        · rw [getD_set_ne false e] at hl
          exact hset k (I.closed j oj hj hl k hk)
    rcases hdo with ⟨v, w', hrun, hv, hb⟩ | ⟨f, args, hrun, hc⟩
    · rw [hrun]
      exact next v w' hv hb
    · rw [hrun]
      refine Calls.mono hc ?_
      rintro e w' ⟨v, rfl, hv, hb⟩
      exact next v w' hv hb
theorem wp_region_last {P : Program} {Q : Exit → Act → World → Prop} {id : Nat} {T0 : Array Value} {df : List Deferred} {w : World} {ops0 : Array Oper} (ops : Array Oper) (heq : ops0 = ops) (Ds : List Des) (c : Nat) (hm : P.follows .mixedOrders = true)
    (hlo : lastOk ops c = true) (hok : regOk ops [] T0.size = true)
    (hstep : AllOps (fun i o => i ≠ c → ∀ (T : Array Value) (w' : World), Below w.heap.size w w' → (∀ d, notDst ops d = true → T.getD d undef = T0.getD d undef) →
      (∀ j d, dep ops i j d = true → desAt Ds j (T.getD d undef) w') → OpDoes P o (Act.eval ⟨T, df⟩) w' (desAt Ds i)) ops0.toList 0)
    (hlast : ∀ o, ops[c]? = some o → ∀ (T : Array Value) (w' : World), Below w.heap.size w w' → T.size = T0.size → (∀ d, notDst ops d = true → T.getD d undef = T0.getD d undef) → (∀ i d, i ≠ c → dstAt ops i d = true → desAt Ds i (T.getD d undef) w') →
      ∃ w'', (execOp (Act.eval ⟨T, df⟩) o).run P w' = .ok .skip w'' ∧ Q .normal (Act.put ⟨T, df⟩ o.dst undef) w'') :
    (Code.region id ops0 true).wp P Q ⟨T0, df⟩ w := by
  have heq := heq.symm
  subst heq
  refine wp_region_any hm (wpAny_last (W0 := w.drewN 1) (df := df) (D := desAt Ds) (gs := []) (c := c) hlo hok (fun g hg => by cases hg) (fun i v w w' h hb => (Ds.getD i (isV undef)).2 v w w' h hb) (fun i o ho hic T w' hb ht hd => ?_) (fun o ho T w' hb hs ht hd => ?_) _ _ _ _ ?_ ?_)
  · have := hstep.at i o (by simpa using ho)
    rw [Nat.zero_add] at this
    refine this hic T w' ((below_drewN (Below.refl _ _) 1).trans hb) ht fun j d hj => ?_
    unfold dep at hj
    rw [ho] at hj
    cases hoj : ops[j]? with
    | none => rw [hoj] at hj; cases hj
    | some oj =>
      rw [hoj] at hj
      simp only [Bool.and_eq_true, beq_iff_eq] at hj
      exact hd j oj d hoj hj.2 hj.1
  · refine hlast o ho T w' ((below_drewN (Below.refl _ _) 1).trans hb) hs ht fun i d hic hi => ?_
    unfold dstAt at hi
    cases ho : ops[i]? with
    | none => rw [ho] at hi; cases hi
    | some o =>
      rw [ho] at hi
      exact hd i o d ho hic (by simpa using hi)
  · simp [unlisted]
  · refine ⟨⟨by simp, Below.refl _ _, rfl, rfl, fun _ _ => rfl, fun i o d ho _ hl => by
      have hi : i < ops.size := (Array.getElem?_eq_some_iff.1 ho).1
      simp [hi] at hl⟩, ?_, fun i o ho hl => by
      have hi : i < ops.size := (Array.getElem?_eq_some_iff.1 ho).1
      simp [hi] at hl⟩
    have := (lastOk_at hlo).1
    have hc : c < ops.size := by omega
    simp [hc]
theorem wp_region_store {P : Program} {Q : Exit → Act → World → Prop} {id : Nat} {T0 : Array Value} {df : List Deferred} {w : World} {ops0 : Array Oper} (ops : Array Oper) (heq : ops0 = ops) (Ds : List Des) (c : Nat) (hm : P.follows .mixedOrders = true)
    (hlo : lastOk ops c = true) (hok : regOk ops [] T0.size = true)
    (hstep : AllOps (fun i o => ∀ (T : Array Value) (w' : World), Below w.heap.size w w' → T.size = T0.size ∨ i ≠ c → (∀ d, notDst ops d = true → T.getD d undef = T0.getD d undef) →
      (∀ j d, (dep ops i j d || ((i == c) && (j != c) && dstAt ops j d)) = true → desAt Ds j (T.getD d undef) w') →
      if i = c then ∃ w'', (execOp (Act.eval ⟨T, df⟩) o).run P w' = .ok .skip w'' ∧ Q .normal (Act.put ⟨T, df⟩ o.dst undef) w'' else OpDoes P o (Act.eval ⟨T, df⟩) w' (desAt Ds i)) ops0.toList 0) :
    (Code.region id ops0 true).wp P Q ⟨T0, df⟩ w := by
  have heq' := heq.symm
  subst heq'
  have hat : ∀ i o, ops[i]? = some o → _ := fun i o ho => by
    have := hstep.at i o (by simpa using ho)
    rw [Nat.zero_add] at this
    exact this
  have key : ∀ (l : List Oper) (k : Nat), (∀ i o, l[i]? = some o → ops[k + i]? = some o) → AllOps (fun i o => i ≠ c → ∀ (T : Array Value) (w' : World), Below w.heap.size w w' → (∀ d, notDst ops d = true → T.getD d undef = T0.getD d undef) →
      (∀ j d, dep ops i j d = true → desAt Ds j (T.getD d undef) w') → OpDoes P o (Act.eval ⟨T, df⟩) w' (desAt Ds i)) l k := by
    intro l
    induction l with
    | nil => intro k _; exact trivial
    | cons o l ih =>
      intro k hk
      refine ⟨fun hic T w' hb hl hd => ?_, ih (k + 1) fun i o' h => by rw [show k + 1 + i = k + (i + 1) from by omega]; exact hk (i + 1) o' (by simpa using h)⟩
      have := hat k o (by have := hk 0 o rfl; simpa using this) T w' hb (Or.inr hic) hl (fun j d hj => by
        rw [beq_eq_false_iff_ne.2 hic] at hj
        simp only [Bool.false_and, Bool.or_false] at hj
        exact hd j d hj)
      rwa [if_neg hic] at this
  refine wp_region_last ops rfl Ds c hm hlo hok (key ops.toList 0 fun i o h => by rw [Nat.zero_add]; simpa using h) fun o ho T w' hb hs hl hd => ?_
  have := hat c o ho T w' hb (Or.inl hs) hl (fun j d hj => by
    by_cases hjc : j = c
    · subst hjc
      exfalso
      simp only [beq_self_eq_true, bne_self_eq_false, Bool.and_false, Bool.false_and, Bool.or_false] at hj
      unfold dep at hj
      rw [ho] at hj
      simp only [Bool.and_eq_true] at hj
      have h1 := (regOk_at hok ho).1
      have h2 := hj.1
      simp only [waitsFor, List.any_eq_true, Bool.and_eq_true, beq_iff_eq] at h2
      obtain ⟨e, he, hbd, e2⟩ := h2
      have := h1 e (by simpa using he) hbd
      omega
    · refine hd j d hjc ?_
      simp only [Bool.or_eq_true, Bool.and_eq_true] at hj
      rcases hj with hj | hj
      · unfold dep at hj
        rw [ho] at hj
        unfold dstAt
        cases hoj : ops[j]? with
        | none => rw [hoj] at hj; cases hj
        | some oj => rw [hoj] at hj; simp only [Bool.and_eq_true] at hj; exact hj.2
      · exact hj.2)
  rwa [if_pos rfl] at this
end Go.Proofs.YtckpdfkobdgjeaaGreatDoor
