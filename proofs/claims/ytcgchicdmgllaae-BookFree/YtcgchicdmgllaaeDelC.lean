/- slices.DeleteFunc of books that are over, in a row of the call's own. -/
import Derived.Test.YtcgchicdmgllaaeDelB
namespace Go.Proofs.Ytcgchicdmgllaae
open Go.RowKit

def bkV (x : Bk) : Value := .agg #[.int .i64 x.id, .int .i64 x.rq.queue, .int .i64 x.rq.fr, .int .i64 x.rq.un, .int .i64 x.rq.kind, .slice x.rq.pa x.rq.pn x.rq.pc, .slice x.ba x.bn x.bc]
theorem Tick1_any (w : World) (x : Bk) (T : Nat) (t : Int) (hT : w.cell? ⟨T, 0, none⟩ = some (.int .i64 t)) (hr : RqIn w x.rq) (hb : RunsIn w x.ba x.bn x.bc x.bs) :
    Calls Try.prog 33 #[.agg #[.int .i64 x.id, .int .i64 x.rq.queue, .int .i64 x.rq.fr, .int .i64 x.rq.un, .int .i64 x.rq.kind, .slice x.rq.pa x.rq.pn x.rq.pc, .slice x.ba x.bn x.bc], .pointer (some ⟨T, 0, none⟩)] w fun e w' => e = .returned (.bool (decide (overV x ≤ t))) ∧ Below w.heap.size w w' := by
  obtain ⟨W1, hW1⟩ : ∃ W1, W1 = w.alloc (.cells #[.int .i64 x.id, .int .i64 x.rq.queue, .int .i64 x.rq.fr, .int .i64 x.rq.un, .int .i64 x.rq.kind, .slice x.rq.pa x.rq.pn x.rq.pc, .slice x.ba x.bn x.bc] 34) := ⟨_, rfl⟩
  have hb0 : Below w.heap.size w W1 := by rw [hW1]; exact (Below.refl _ _).alloc (Nat.le_refl _) _
  have K := Over_any W1 x.rq (RqIn.later hr hb0) x.ba x.bn x.bc x.bs (hb.later hb0)
  rw [show (if overOk x.rq x.bs = true then overMax x.rq x.bs x.bs.length else 0) = overV x from rfl] at K
  obtain ⟨V, hV⟩ : ∃ V, overV x = V := ⟨_, rfl⟩
  rw [hV] at K ⊢
  obtain ⟨E, hE⟩ : ∃ E, (if overOk x.rq x.bs = true then (0 : Int) else 1) = E := ⟨_, rfl⟩
  rw [hE] at K
  have HK := hid K
  have HW1 := hid hW1
  have HB0 := hid hb0
  have HT := hid (cell_later hb0 hT)
  clear K hW1 hb0 hT hr hb hV hE
  go_enter Try.func33, Try.ntmps33
  go_wp2_with fail
  rw [← HW1.out]
  refine HK.out.mono ?_
  rintro e w1 ⟨rfl, hb⟩
  have c0 := cell_later hb HT.out
  have HB1 := hid (below_from HB0.out hb)
  clear hb
  go_wp2
  go_ret
  exact ⟨rfl, HB1.out⟩

def DfAns (w w' : World) (e : Ending) (B : Nat) (aa : Option Addr) (bn k : Nat) (b1 : BL) : Prop := e = .returned (.slice aa b1.length k) ∧ OwnBks w' B (.slice aa b1.length k) b1 ∧ (∀ x, x < w.heap.size → (Value.slice aa bn k).ownBlock ≠ some x → w'.heap[x]? = w.heap[x]?) ∧ Below B w w'
/-- of the first j books those that stay stand in front, i of them; behind the first j all is as it was -/
structure Swept (w wr : World) (B g bn k : Nat) (b : BL) (q : Bk → Bool) (i j : Nat) : Prop where
  len : i = ((b.take j).filter fun x => !q x).length
  row : ∃ cur, wr.heap[g]? = some (.cells cur 34 (0, 0)) ∧ cur.size = k * 7 ∧ cur.toList.take (i * 7) = bkCells ((b.take j).filter fun x => !q x) ∧ (cur.toList.take (bn * 7)).drop (j * 7) = bkCells (b.drop j)
  oth : ∀ x, x ≠ g → x < w.heap.size → wr.heap[x]? = w.heap[x]?
  below : Below B w wr
theorem drop_at {b : BL} {j : Nat} (h : j < b.length) : b.drop j = bk b j :: b.drop (j + 1) := by
  rw [bk_get h]; exact List.drop_eq_getElem_cons h
theorem take_at {b : BL} {j : Nat} (h : j < b.length) : b.take (j + 1) = b.take j ++ [bk b j] := by
  rw [bk_get h, List.take_succ_eq_append_getElem h]
theorem Swept.cell {w wr : World} {B g bn k : Nat} {b : BL} {q : Bk → Bool} {i j : Nat} (h : Swept w wr B g bn k b q i j) (hj : j < b.length) {m : Nat} {u : Value} (hu : (bkCell (bk b j))[m]? = some u) : wr.cell? ⟨g, j * 7 + m, none⟩ = some u := by
  obtain ⟨cur, h1, h2, h3, h4⟩ := h.row
  rw [cell_of_row wr g _ _ _ _ h1]
  have h5 : (bkCells (b.drop j))[m]? = some u := by
    rw [drop_at hj, bkCells, List.getElem?_append_left (List.getElem?_eq_some_iff.1 hu).1]; exact hu
  rw [← h4, List.getElem?_drop, List.getElem?_take] at h5
  split at h5
  · rw [← Array.getElem?_toList]; exact h5
  · cases h5
theorem Swept.later {w wr wx : World} {B g bn k : Nat} {b : BL} {q : Bk → Bool} {i j : Nat} (h : Swept w wr B g bn k b q i j) (hB : B ≤ wr.heap.size) (hb : Below wr.heap.size wr wx) : Swept w wx B g bn k b q i j := by
  obtain ⟨cur, h1, h2, h3, h4⟩ := h.row
  exact ⟨h.len, ⟨cur, (hb.block g (Array.getElem?_eq_some_iff.1 h1).1).trans h1, h2, h3, h4⟩, fun x hx hx2 => (hb.block x (Nat.lt_of_lt_of_le hx2 h.below.size)).trans (h.oth x hx hx2), h.below.trans (hb.mono hB)⟩
/-- the j-th goes -/
theorem Swept.skip {w wr : World} {B g bn k : Nat} {b : BL} {q : Bk → Bool} {i j : Nat} (h : Swept w wr B g bn k b q i j) (hj : j < b.length) (hq : q (bk b j) = true) : Swept w wr B g bn k b q i (j + 1) := by
  obtain ⟨cur, h1, h2, h3, h4⟩ := h.row
  have e : (b.take (j + 1)).filter (fun x => !q x) = (b.take j).filter fun x => !q x := by rw [take_at hj, List.filter_append]; simp [hq]
  refine ⟨by rw [e]; exact h.len, ⟨cur, h1, h2, by rw [e]; exact h3, ?_⟩, h.oth, h.below⟩
  rw [show (j + 1) * 7 = j * 7 + 7 from by omega, ← List.drop_drop, h4, drop_at hj, bkCells]
  rfl
/-- the j-th stays, and is laid behind the others that stay -/
theorem Swept.stay {w wr : World} {B g bn k : Nat} {b : BL} {q : Bk → Bool} {i j : Nat} (h : Swept w wr B g bn k b q i j) (hbn : bn = b.length) (hk : bn ≤ k) (hj : j < b.length) (hij : i < j) (hq : q (bk b j) = false) (hB : B ≤ g) : Swept w (wr.setCells g (i * 7) (bkCell (bk b j))) B g bn k b q (i + 1) (j + 1) := by
  obtain ⟨cur, h1, h2, h3, h4⟩ := h.row
  have h7 : (bkCell (bk b j)).length = 7 := rfl
  have e : (b.take (j + 1)).filter (fun x => !q x) = ((b.take j).filter fun x => !q x) ++ [bk b j] := by rw [take_at hj, List.filter_append]; simp [hq]
  have hone : ∀ u ∈ bkCell (bk b j), u.oneCell' = true := fun u hu => bkCells_one [bk b j] u (by simpa [bkCells] using hu)
  rw [setCells_row wr g (i * 7) cur 34 _ h1 (by rw [h7]; omega) hone, h7]
  have hlt : (cur.toList.take (i * 7)).length = i * 7 := by rw [List.length_take, Array.length_toList]; omega
  refine ⟨by rw [e, List.length_append, ← h.len]; rfl, ⟨_, setRow_heap wr g cur _ _ _ h1, ?_, ?_, ?_⟩, fun x hx hx2 => (setRow_other wr g x _ hx).trans (h.oth x hx hx2), Below.setRow h.below hB _⟩
  · simp [h7]; omega
  · show ((cur.toList.take (i * 7) ++ bkCell (bk b j)) ++ _).take _ = _
    rw [List.take_left' (by rw [List.length_append, hlt, h7]; omega), e, bkCells_app, h3]
    simp [bkCells]
  · show (((cur.toList.take (i * 7) ++ bkCell (bk b j)) ++ cur.toList.drop (i * 7 + 7)).take (bn * 7)).drop ((j + 1) * 7) = _
    have hl2 : (cur.toList.take (i * 7) ++ bkCell (bk b j)).length = i * 7 + 7 := by rw [List.length_append, hlt, h7]
    have e2 : (cur.toList.take (bn * 7)).drop ((j + 1) * 7) = bkCells (b.drop (j + 1)) := by
      rw [show (j + 1) * 7 = j * 7 + 7 from by omega, ← List.drop_drop, h4, drop_at hj, bkCells]
      rfl
    rw [← e2]
    apply List.ext_getElem?
    intro m
    rw [List.getElem?_drop, List.getElem?_drop, List.getElem?_take, List.getElem?_take]
    split
    · rw [List.getElem?_append_right (by rw [hl2]; omega), hl2, List.getElem?_drop]
      congr 1
      omega
    · rfl

theorem Swept.has {w wr : World} {B g bn k : Nat} {b : BL} {q : Bk → Bool} {i j : Nat} (h : Swept w wr B g bn k b q i j) {o : Nat} (ho : o < k * 7) : ∃ u, wr.cell? ⟨g, o, none⟩ = some u := by
  obtain ⟨cur, h1, h2, _⟩ := h.row
  exact ⟨cur[o], by rw [cell_of_row wr g _ _ _ _ h1, Array.getElem?_eq_getElem (by omega)]⟩
theorem Swept.soft {w wr : World} {B g bn k : Nat} {b : BL} {q : Bk → Bool} {i j : Nat} (h : Swept w wr B g bn k b q i j) (o : Nat) : wr.frozen? ⟨g, o, none⟩ = false := by
  obtain ⟨cur, h1, _⟩ := h.row
  exact frozen_of_row wr g o _ _ h1
theorem lt_cell {w : World} {T o : Nat} {u : Value} (h : w.cell? ⟨T, o, none⟩ = some u) : T < w.heap.size := by
  rcases Nat.lt_or_ge T w.heap.size with h1 | h1
  · exact h1
  · simp [World.cell?, Array.getElem?_eq_none h1] at h

set_option maxHeartbeats 2000000 in
set_option maxRecDepth 100000 in
theorem DeleteFunc_own (w : World) (B T : Nat) (hBw : B ≤ w.heap.size) (t : Int) (aa : Option Addr) (bn k : Nat) (b : BL) (hO : OwnBks w B (.slice aa bn k) b) (hbl : bn = b.length) (h12 : bn ≤ 12) (hT : w.cell? ⟨T, 0, none⟩ = some (.int .i64 t)) (hTg : (Value.slice aa bn k).ownBlock ≠ some T) :
    Calls Try.prog 32 #[.slice aa bn k, .func (.func 33) #[] #[.pointer (some ⟨T, 0, none⟩)]] w fun e w' => DfAns w w' e B aa bn k (b.filter fun x => !decide (overV x ≤ t)) := by
  have K0 := IndexBk_at 33 #[.pointer (some ⟨T, 0, none⟩)] (fun x => decide (overV x ≤ t)) (fun args w => by go_simp) w aa bn k b (own_bks_is hO) (fun w' hw' x h1 h2 => Tick1_any w' x T t (cell_later hw' hT) h1 h2)
  cases hf : findFrom (fun i => decide (overV (bk b i) ≤ t)) 0 bn with
  | none =>
    have hall : (b.filter fun x => !decide (overV x ≤ t)) = b := by
      refine List.filter_eq_self.2 fun x hx => ?_
      obtain ⟨i, hi, rfl⟩ := mem_bk hx
      have := findFrom_none hf i (by omega) (by omega)
      rw [this]; rfl
    rw [hall]
    rw [hf] at K0
    have HK0 := hid K0
    have HF : Hid (∀ w', Below w.heap.size w w' → DfAns w w' (.returned (.slice aa bn k)) B aa bn k b) := hid fun w' hb => by
      unfold DfAns
      rw [← hbl]
      exact ⟨rfl, hO.later hb, fun x hx _ => hb.block x hx, hb.mono hBw⟩
    clear K0 hf hall hT hTg hO hbl
    go_enter Try.func32, Try.ntmps32
    go_wp2_with fail
    refine HK0.out.mono ?_
    rintro e w1 ⟨rfl, hb⟩
    have HA := hid (HF.out w1 hb)
    clear hb
    simp only [idxI]
    go_wp2
    go_ret
    exact HA.out
  | some i0 =>
    obtain ⟨_, hi0, hq0, hlow⟩ := findFrom_some hf
    have hi0n : i0 < bn := by omega
    obtain ⟨g, rfl⟩ : ∃ g, aa = some ⟨g, 0, none⟩ := by
      rcases hO.row.2 with ⟨hz, h0⟩ | ⟨g, cap, cur, e, _⟩
      · omega
      · simp only [Value.slice.injEq] at e
        exact ⟨g, e.1⟩
    obtain ⟨cur, r1, r2, r3, r4, r5, r6, r7⟩ := own_row hO
    have hTg' : T ≠ g := fun e => hTg (by rw [e]; rfl)
    have hkeep : (b.take (i0 + 1)).filter (fun x => !decide (overV x ≤ t)) = b.take i0 := by
      rw [take_at (by omega), List.filter_append]
      have h1 : (b.take i0).filter (fun x => !decide (overV x ≤ t)) = b.take i0 := by
        refine List.filter_eq_self.2 fun x hx => ?_
        obtain ⟨s, hs, rfl⟩ := mem_bk hx
        have hs' : s < i0 := by simp at hs; omega
        have e : bk (b.take i0) s = bk b s := by unfold bk; simp [List.getD, hs']
        rw [e, hlow s (by omega) hs']; rfl
      rw [h1]
      have hq1 : overV (bk b i0) ≤ t := of_decide_eq_true hq0
      simp [hq1]
    have hS0 : ∀ w1, Below w.heap.size w w1 → Swept w w1 B g bn k b (fun x => decide (overV x ≤ t)) i0 (i0 + 1) := fun w1 hb => by
      refine ⟨by rw [hkeep]; simp; omega, ⟨cur, (hb.block g (Array.getElem?_eq_some_iff.1 r1).1).trans r1, r5, ?_, ?_⟩, fun x _ hx => hb.block x hx, hb.mono hBw⟩
      · rw [hkeep, ← bkCells_take b i0 (by omega), ← r6, List.take_take]; congr 1; omega
      · rw [r6, bkCells_drop b (i0 + 1) (by omega)]
    rw [hf] at K0
    have HK0 := hid K0
    have HS0 := hid hS0
    have HO := hid hO
    have HT := hid hT
    have HBL := hid hbl
    have HBG := hid r7
    have HTG := hid hTg'
    have HBW := hid hBw
    have hgl := (Array.getElem?_eq_some_iff.1 r1).1
    have HGL := hid hgl
    clear K0 hf hkeep hS0 hlow hq0 hO hT hTg hbl r1 r2 r4 r5 r6 r7 hTg' hBw hgl hi0
    go_enter Try.func32, Try.ntmps32
    go_wp2_with fail
    refine HK0.out.mono ?_
    rintro e w1 ⟨rfl, hb⟩
    have HS1 := hid (HS0.out w1 hb)
    clear hb HS0
    simp only [idxI]
    have hn1 : ((i0 : Int) == -1) = false := by simp
    have hw1 : IntKind.i64.wrap ((i0 : Int) + 1) = (i0 : Int) + 1 := by rw [IntKind.wrap_i64]; omega
    go_wp2
    go_loopw [5, 6, 7] (fun si sj _ wr => ∃ i j : Nat, si = .int .i64 i ∧ sj = .int .i64 j ∧ i < j ∧ j ≤ bn ∧ Swept w wr B g bn k b (fun x => decide (overV x ≤ t)) i j) (fun _ sj _ _ => bn - (intOf sj).toNat)
    case atStart => exact ⟨i0, i0 + 1, rfl, by go_num, by omega, by omega, HS1.out⟩
    case round =>
      obtain ⟨i, j, rfl, rfl, hij, hjn, hSw⟩ := hrel
      have HSW := hid hSw
      clear hSw
      by_cases hlt : j < bn
      · have hlt' : (j : Int) < bn := by omega
        have hjb : j < b.length := by have := HBL.out; omega
        have c0 := HSW.out.cell hjb (m := 0) rfl
        have c1 := HSW.out.cell hjb (m := 1) rfl
        have c2 := HSW.out.cell hjb (m := 2) rfl
        have c3 := HSW.out.cell hjb (m := 3) rfl
        have c4 := HSW.out.cell hjb (m := 4) rfl
        have c5 := HSW.out.cell hjb (m := 5) rfl
        have c6 := HSW.out.cell hjb (m := 6) rfl
        simp only [Nat.add_zero] at c0
        have hrq : RqIn wr (bk b j).rq := RunsIn.of_away (HO.out.rqs j hjb) fun hp g' off e2 => HSW.out.oth g' (fun e3 => HO.out.farP j hjb hp g' off e2 (by rw [e3]; rfl)) (RunsIn.lt (HO.out.rqs j hjb) hp e2)
        have hbt : RunsIn wr (bk b j).ba (bk b j).bn (bk b j).bc (bk b j).bs := (HO.out.bites j hjb).of_away fun hp g' off e2 => HSW.out.oth g' (fun e3 => HO.out.farB j hjb hp g' off e2 (by rw [e3]; rfl)) ((HO.out.bites j hjb).lt hp e2)
        obtain ⟨X, hX⟩ : ∃ X, bk b j = X := ⟨_, rfl⟩
        rw [hX] at c0 c1 c2 c3 c4 c5 c6 hrq hbt
        obtain ⟨W2, hW2⟩ : ∃ W2, W2 = wr.alloc (.cells #[.int .i64 X.id, .int .i64 X.rq.queue, .int .i64 X.rq.fr, .int .i64 X.rq.un, .int .i64 X.rq.kind, .slice X.rq.pa X.rq.pn X.rq.pc, .slice X.ba X.bn X.bc] 34) := ⟨_, rfl⟩
        have hb2 : Below wr.heap.size wr W2 := by rw [hW2]; exact (Below.refl _ _).alloc (Nat.le_refl _) _
        have hbx : BkBox W2 wr.heap.size X := by rw [hW2]; exact heap_alloc_new wr _
        have hTr : wr.cell? ⟨T, 0, none⟩ = some (.int .i64 t) := (World.cell?_of_block (w := w) (HSW.out.oth T HTG.out (by have := HT.out; exact lt_cell this))).trans HT.out
        have K := Tick1_any W2 X T t (cell_later hb2 hTr) (RqIn.later hrq hb2) (hbt.later hb2)
        have HK := hid K
        have HX := hid hX
        have HW2 := hid hW2
        have HBX := hid hbx
        have HB2 := hid hb2
        have hSw2 := HSW.out.later (Nat.le_trans HBW.out HSW.out.below.size) hb2
        have HSW2 := hid hSw2
        obtain ⟨P, hP⟩ : ∃ P, wr.heap.size = P := ⟨_, rfl⟩
        rw [hP] at HBX
        clear hX hW2 hb2 hbx K hTr hSw2 hrq hbt
        go_wp2_with fail
        rw [← HW2.out]
        refine HK.out.mono ?_
        rintro e w3 ⟨rfl, hb⟩
        have HSW3 := hid (HSW2.out.later (Nat.le_trans HBW.out HSW2.out.below.size) hb)
        obtain ⟨b0, b1, b2, b3, b4, b5, b6⟩ := (HBX.out.later hb).cells
        clear hb c0 c1 c2 c3 c4 c5 c6
        by_cases hq : overV X ≤ t
        · have HQ := hid hq
          rw [decide_eq_true hq]
          clear hq
          go_wp2
          go_roundw
          case rel => exact ⟨i, j + 1, rfl, by go_num, by omega, by omega, HSW3.out.skip hjb (by rw [HX.out]; exact decide_eq_true HQ.out)⟩
          case measure => simp [intOf]; omega
        · have HQ := hid hq
          rw [decide_eq_false hq]
          clear hq
          have hin : (i : Int) < bn := by omega
          obtain ⟨u0, v0⟩ := HSW3.out.has (o := i * 7) (by omega)
          obtain ⟨u1, v1⟩ := HSW3.out.has (o := i * 7 + 1) (by omega)
          obtain ⟨u2, v2⟩ := HSW3.out.has (o := i * 7 + 2) (by omega)
          obtain ⟨u3, v3⟩ := HSW3.out.has (o := i * 7 + 3) (by omega)
          obtain ⟨u4, v4⟩ := HSW3.out.has (o := i * 7 + 4) (by omega)
          obtain ⟨u5, v5⟩ := HSW3.out.has (o := i * 7 + 5) (by omega)
          obtain ⟨u6, v6⟩ := HSW3.out.has (o := i * 7 + 6) (by omega)
          have hfz := HSW3.out.soft
          go_wp2
          go_roundw
          case rel =>
            have hst := HSW3.out.stay HBL.out (by omega) hjb hij (by rw [HX.out]; exact decide_eq_false (by have := HQ.out; omega)) HBG.out
            rw [HX.out] at hst
            exact ⟨i + 1, j + 1, by go_num, by go_num, by omega, by omega, hst⟩
          case measure => simp [intOf]; omega
      · obtain rfl : j = bn := by omega
        obtain ⟨cu, q1, q2, q3, q4⟩ := HSW.out.row
        obtain ⟨c9, hc9⟩ : ∃ c9, c9 = (cu.toList.take (i * 7) ++ (Builtin.zeroCells zeroB.cells (j - i)).toList ++ cu.toList.drop (i * 7 + (j - i) * 7)).toArray := ⟨_, rfl⟩
        have hcl : ∀ ty, (Builtin.clear_ #[23] ty #[.slice (some ⟨g, i * 7, none⟩) (j - i) (k - i)]).run Try.prog wr = .ok (.tuple #[]) (wr.setRow g c9) := fun ty => by
          rw [hc9]
          exact clear_books wr g _ _ _ ty cu q1 (by omega) (by omega)
        have hb1l : (b.take j) = b := List.take_of_length_le (by have := HBL.out; omega)
        have hlen : i = (b.filter fun x => !decide (overV x ≤ t)).length := by have := HSW.out.len; rw [hb1l] at this; exact this
        have HF : Hid (DfAns w (wr.setRow g c9) (.returned (.slice (some ⟨g, 0, none⟩) i k)) B (some ⟨g, 0, none⟩) j k (b.filter fun x => !decide (overV x ≤ t))) := by
          show DfAns _ _ _ _ _ _ _ _
          have hs := own_sub (w' := wr.setRow g c9) HO.out (b1 := b.filter fun x => !decide (overV x ≤ t)) (fun x hx => (List.mem_filter.1 hx).1) (by rw [← hlen]; omega) ⟨c9, setRow_heap wr g cu _ _ _ q1, by
              have := zeros_len (j - i)
              rw [Array.length_toList] at this
              rw [hc9]; simp [this]; omega, by
              rw [← hlen, hc9]
              show ((cu.toList.take (i * 7) ++ _) ++ _).take _ = _
              rw [List.append_assoc, List.take_left' (by rw [List.length_take, Array.length_toList]; omega), q3, hb1l]⟩
            (fun x hx hx2 => (setRow_other wr g x _ hx).trans (HSW.out.oth x hx hx2))
          refine ⟨by rw [← hlen], hs, fun x hx hx2 => (setRow_other wr g x _ (fun e => hx2 (by rw [e]; rfl))).trans (HSW.out.oth x (fun e => hx2 (by rw [e]; rfl)) hx), Below.setRow HSW.out.below HBG.out _⟩
        have hki : ¬ k = i := by omega
        have hik : i ≤ k := by omega
        have hij' : (i : Int) ≤ j := by omega
        clear q1 q2 q3 q4 hc9 hb1l hlen
        go_wp2
        go_ret
        exact HF.out
end Go.Proofs.Ytcgchicdmgllaae
