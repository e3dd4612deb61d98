/- Contract of the reference's find, of kind All: each piece at its first place, in what the ones ahead have left. -/
import Derived.Test.YtlkaamgmjgkpaacFindC
namespace Go.Proofs.Ytlkaamgmjgkpaac
open Go.RowKit

/-- the request's own box -/
def RBox (w : World) (B : Nat) (r : Rq) (pb po : Nat) : Prop := w.heap[B]? = some (.cells #[.int .i64 r.queue, .int .i64 r.fr, .int .i64 r.un, .int .i64 r.kind, .slice (some ⟨pb, po, none⟩) r.pn r.pc] 41 (0, 0))
theorem RBox.cells {w : World} {B : Nat} {r : Rq} {pb po : Nat} (h : RBox w B r pb po) :
    w.cell? ⟨B, 0, none⟩ = some (.int .i64 r.queue) ∧ w.cell? ⟨B, 1, none⟩ = some (.int .i64 r.fr) ∧ w.cell? ⟨B, 2, none⟩ = some (.int .i64 r.un) ∧ w.cell? ⟨B, 3, none⟩ = some (.int .i64 r.kind) ∧ w.cell? ⟨B, 4, none⟩ = some (.slice (some ⟨pb, po, none⟩) r.pn r.pc) := by
  refine ⟨?_, ?_, ?_, ?_, ?_⟩ <;> (rw [cell_of_row w B _ _ _ _ h]; rfl)
/-- the table once M is taken away from X on, up to i -/
def cutV (g : RunL) (x M : Int) (i : Nat) (s : Nat) : Int := if x ≤ s ∧ s < i then vals g s - M else vals g s
theorem cutV_next (g : RunL) (x M : Int) (i : Nat) (h : x ≤ i) : upd (cutV g x M i) i (vals g i - M) = cutV g x M (i + 1) := by
  funext s
  unfold upd cutV
  by_cases e : s = i
  · subst e
    rw [if_pos rfl, if_pos ⟨h, by omega⟩]
  · rw [if_neg e]
    by_cases e2 : x ≤ s ∧ s < i
    · rw [if_pos e2, if_pos ⟨e2.1, by omega⟩]
    · rw [if_neg e2, if_neg (fun q => e2 ⟨q.1, by omega⟩)]
theorem cutV_first (g : RunL) (x M : Int) (i : Nat) (h : i ≤ x) : cutV g x M i = vals g := by
  funext s
  unfold cutV
  rw [if_neg (fun q => by omega)]
theorem cutV_at (g : RunL) (x M : Int) (i : Nat) : cutV g x M i i = vals g i := by
  unfold cutV
  rw [if_neg (fun q => by omega)]
/-- all that the taking away leaves as it was -/
structure Keeps (w wi : World) (G B S P : Nat) (r : Rq) (pb po : Nat) (v : Value) (bs : RunL) (L M : Int) : Prop where
  box : RBox wi B r pb po
  own : OwnBites wi S v bs
  bel : Below w.heap.size w wi
  size : S ≤ wi.heap.size
  p0 : wi.cell? ⟨P, 0, none⟩ = some (.int .i64 L)
  p1 : wi.cell? ⟨P, 1, none⟩ = some (.int .i64 M)
theorem Keeps.store {w wi : World} {G B S P : Nat} {r : Rq} {pb po : Nat} {v : Value} {bs : RunL} {L M : Int} (h : Keeps w wi G B S P r pb po v bs L M) (hG : w.heap.size ≤ G ∧ G < S) (hB : B ≠ G) (hP : P ≠ G) (i : Nat) (y : Value) :
    Keeps w (wi.setCell ⟨G, i, none⟩ y) G B S P r pb po v bs L M := by
  refine ⟨?_, h.own.of_block (fun k hk => Below.heap_setCell _ _ _ k (by have := (h.own.lt k hk).1; simp only; omega)), h.bel.setCell hG.1 _, ?_, ?_, ?_⟩
  · unfold RBox
    rw [Below.heap_setCell _ _ _ B (by simpa using hB)]; exact h.box
  · simp only [World.setCell, Array.size_modify]; exact h.size
  · exact (World.cell?_of_block (w := wi) (a := ⟨P, 0, none⟩) (Below.heap_setCell _ _ _ P (by simpa using hP))).trans h.p0
  · exact (World.cell?_of_block (w := wi) (a := ⟨P, 1, none⟩) (Below.heap_setCell _ _ _ P (by simpa using hP))).trans h.p1
theorem Keeps.drew {w wi : World} {G B S P : Nat} {r : Rq} {pb po : Nat} {v : Value} {bs : RunL} {L M : Int} (h : Keeps w wi G B S P r pb po v bs L M) : Keeps w wi.drew G B S P r pb po v bs L M :=
  ⟨h.box, h.own, below_drewN h.bel 1, h.size, h.p0, h.p1⟩
theorem each_room {r : Rq} (hc : chkR false r = 0) {g : RunL} (hg : Fine g) {k : Nat} (hk : k < r.ps.length) {x L M z : Int} (e : fst3 r g r.fr k = (x, true, z)) (hL : rAt r.ps k = L) (hM : rN r.ps k = M) :
    x + L ≤ 48 ∧ Fine (bumpR g x (x + L) (-M)).1 ∧ (∀ i : Nat, i < 48 → -1048576 ≤ vals g i ∧ vals g i ≤ 1048576) ∧ ∀ i : Nat, (i : Int) = x + L → tabA (cutV g x M i) = tabA (vals (bumpR g x (x + L) (-M)).1) := by
  have hs := spn_at hc
  have hp := piece_at hc hk
  have h1 : (fst3 r g r.fr k).2.1 = true := by rw [e]
  obtain ⟨_, F, t, q1, q2, q3, q4, _⟩ := fst_hit hc hk h1
  rw [e] at q2
  simp only at q2
  unfold Roomy at q4
  rw [hL, hM] at q4
  rw [hL, hM] at hp
  have h48 : x + L ≤ 48 := by omega
  obtain ⟨b1, b2, b3⟩ := bump_ok hg (t := x) (L := L) (M := M) (by omega) (by omega) h48 (by omega) (fun u k1 k2 => q4.2 u (by omega) (by omega))
  refine ⟨h48, b2, fun i hi => bdd_iff.1 (valAt_bdd hg (i : Int) (by omega)), fun i hi => tabA_congr fun s hs48 => ?_⟩
  rw [b3 s hs48]
  unfold cutV
  by_cases e2 : x ≤ s ∧ (s : Int) < x + L
  · rw [if_pos e2, if_pos ⟨e2.1, by omega⟩]
  · rw [if_neg e2, if_neg (fun q => e2 ⟨q.1, by omega⟩)]

set_option maxRecDepth 100000 in
set_option maxHeartbeats 4000000 in
theorem findE_any (w : World) (f : RunL) (hf : Fine f) (r : Rq) (h : RqIn w r) (hc0 : chkR false r = 0) (hk1 : r.kind = 1) :
    Calls Try.prog 53 #[.agg (tabA (vals f)), .agg #[.int .i64 r.queue, .int .i64 r.fr, .int .i64 r.un, .int .i64 r.kind, .slice r.pa r.pn r.pc]] w fun e w' => GivesB w w' e (bitesOf (eachSt r f r.ps.length)) := by
  obtain ⟨A, hA⟩ : ∃ A, bitesOf (eachSt r f r.ps.length) = A := ⟨_, rfl⟩
  rw [hA]
  have hcb := h.capb
  have hle := h.le
  have HPN := hid h.len
  have hpp : 0 < r.pn := by have := of_decide_eq_true (chkR_zero.1 hc0).2.1; have := h.len; omega
  have hp3 : r.pn ≤ 3 := by have := of_decide_eq_true (chkR_zero.1 hc0).2.1; have := h.len; omega
  obtain ⟨pb, po, hpa, hpc⟩ := h.cells hpp
  have HPC := hid hpc
  have HPS := hid fun k (hk : k < r.pn) => piece_at hc0 (k := k) (by have := h.len; omega)
  have HSP := hid (spn_at hc0)
  have KF := hid fun (X : World) (g : RunL) (hg : Fine g) (fm : Int) (k : Nat) (hk : k < r.pn) (h0 : 0 ≤ fm) (h1 : fm ≤ 200) => first_fst X hc0 hg (k := k) (by have := h.len; omega) h0 h1
  obtain ⟨i0, hi0, hz0, hz1, hz2⟩ := info_parts Try.infoBite
  have B1 := hid (((Below.refl w.heap.size w).alloc (Nat.le_refl _) (.cells (tabA (vals f)) 69)).alloc (by simp) (.cells #[.int .i64 r.queue, .int .i64 r.fr, .int .i64 r.un, .int .i64 r.kind, .slice (some ⟨pb, po, none⟩) r.pn r.pc] 41))
  have TB := hid ((Tab.new w (vals f)).alloc (.cells #[.int .i64 r.queue, .int .i64 r.fr, .int .i64 r.un, .int .i64 r.kind, .slice (some ⟨pb, po, none⟩) r.pn r.pc] 41))
  have KB := hid (box_cells (w.alloc (.cells (tabA (vals f)) 69)) r)
  rw [hpa] at KB
  rw [hpa]
  have hk4b : (r.kind == 4) = false := by simp [hk1]
  have hk1b : (r.kind == 1) = true := by simp [hk1]
  have hk2b : (r.kind == 2) = false := by simp [hk1]
  have hk2n : (r.kind != 2) = true := by simp [hk1]
  have hk3b : (r.kind == 3) = false := by simp [hk1]
  rw [← HPN.out] at hA
  have HA := hid hA
  have HNO := hid (each_none (r := r) (f := f))
  have HFI0 := hid hf
  have KR := hid fun (g : RunL) (hg : Fine g) (k : Nat) (hk : k < r.pn) (x L M z : Int) => each_room hc0 hg (k := k) (by have := h.len; omega) (x := x) (L := L) (M := M) (z := z)
  clear hpc h hf hc0 hA hk1
  go_enter Try.func53, Try.ntmps53
  go_wp2_with fail
  have RB0 : Hid (RBox ((w.alloc (.cells (tabA (vals f)) 69)).alloc (.cells #[.int .i64 r.queue, .int .i64 r.fr, .int .i64 r.un, .int .i64 r.kind, .slice (some ⟨pb, po, none⟩) r.pn r.pc] 41)) (w.heap.size + 1) r pb po) := by
    show RBox ((w.alloc (.cells (tabA (vals f)) 69)).alloc (.cells #[.int .i64 r.queue, .int .i64 r.fr, .int .i64 r.un, .int .i64 r.kind, .slice (some ⟨pb, po, none⟩) r.pn r.pc] 41)) (w.heap.size + 1) r pb po
    unfold RBox
    have := heap_alloc_new (w.alloc (.cells (tabA (vals f)) 69)) (.cells #[.int .i64 r.queue, .int .i64 r.fr, .int .i64 r.un, .int .i64 r.kind, .slice (some ⟨pb, po, none⟩) r.pn r.pc] 41)
    rwa [World.size_alloc] at this
  obtain ⟨W0, hW0⟩ : ∃ W0, (w.alloc (.cells (tabA (vals f)) 69)).alloc (.cells #[.int .i64 r.queue, .int .i64 r.fr, .int .i64 r.un, .int .i64 r.kind, .slice (some ⟨pb, po, none⟩) r.pn r.pc] 41) = W0 := ⟨_, rfl⟩
  obtain ⟨G, hG⟩ : ∃ G, w.heap.size = G := ⟨_, rfl⟩
  obtain ⟨B, hB⟩ : ∃ B, w.heap.size + 1 = B := ⟨_, rfl⟩
  have hsz0 : w.heap.size + 2 ≤ W0.heap.size := by rw [← hW0]; simp
  rw [hW0] at KB TB B1 RB0
  rw [World.size_alloc, hB] at KB
  rw [hB, hG, hW0]
  rw [hG] at TB
  rw [hB] at RB0
  have hGl : G < W0.heap.size := by omega
  have hBl : B < W0.heap.size := by omega
  have HBG := hid (show w.heap.size ≤ G ∧ w.heap.size ≤ B ∧ B ≠ G from by omega)
  have hGW : G < W0.heap.size := hGl
  clear hW0 hG hB
  obtain ⟨c0, c1, c2, c3, c4⟩ := KB.out W0 (Below.refl _ _)
  go_wp2_with fail
  go_loopw [9, 10, 11] (fun v sf st wr => ∃ (k : Nat) (g bs : RunL), st = .int .i64 k ∧ k ≤ r.pn ∧ sf = .int .i64 r.fr ∧ eachSt r f k = some (g, bs) ∧ Fine g ∧ Tab wr G (vals g) ∧ RBox wr B r pb po ∧ OwnBites wr W0.heap.size v bs ∧ Below w.heap.size w wr ∧ W0.heap.size ≤ wr.heap.size) (fun _ _ st _ => r.pn - (intOf st).toNat)
  case atStart => exact ⟨0, f, [], rfl, by omega, rfl, rfl, HFI0.out, TB.out, RB0.out, World.ownsRow_nil _ _ _ _, B1.out, Nat.le_refl _⟩
  case round =>
    clear c0 c1 c2 c3 c4
    obtain ⟨k, g, bs, rfl, hk, rfl, hst, hfi, htab, hbox, hown, hbel, hszr⟩ := hrel
    have HST := hid hst
    have HFI := hid hfi
    have HTB := hid htab
    have HBX := hid hbox
    have HO := hid hown
    have HB := hid hbel
    have hbl : bs.length = k := each_len hst
    have HBL := hid hbl
    have hGr : G < wr.heap.size := by omega
    have hBr : B < wr.heap.size := by omega
    have hpbl : pb < wr.heap.size := Nat.lt_of_lt_of_le (block_lt_of_cell (HPC.out 0 hpp).1) (by omega)
    clear hst hfi htab hbox hown hbel hbl
    obtain ⟨c0, c1, c2, c3, c4⟩ := HBX.out.cells
    by_cases hlt : k < r.pn
    · have hlt' : (k : Int) < r.pn := by omega
      have d0 := cell_later HB.out (HPC.out k hlt).1
      have d1 := cell_later HB.out (HPC.out k hlt).2
      have hps := HPS.out k hlt
      obtain ⟨W2, hW2⟩ : ∃ W2, W2 = wr.alloc (.cells #[.int .i64 (rAt r.ps k), .int .i64 (rN r.ps k)] 100) := ⟨_, rfl⟩
      have HT2 : Hid (Tab (wr.alloc (.cells #[.int .i64 (rAt r.ps k), .int .i64 (rN r.ps k)] 100)) G (vals g)) := HTB.out.alloc _
      have BW2 : Below wr.heap.size wr W2 := by rw [hW2]; exact (Below.refl _ _).alloc (Nat.le_refl _) _
      have K := KF.out W2 g HFI.out r.fr k hlt (by have := HSP.out; omega) (by have := HSP.out; omega)
      have hbd := fst3_bd r g r.fr k
      obtain ⟨X, hX⟩ : ∃ X, fst3 r g r.fr k = X := ⟨_, rfl⟩
      rw [hX] at K hbd
      have HX := hid hX
      obtain ⟨L, hL⟩ : ∃ L, rAt r.ps k = L := ⟨_, rfl⟩
      obtain ⟨M, hM⟩ : ∃ M, rN r.ps k = M := ⟨_, rfl⟩
      have HL := hid hL
      have HM := hid hM
      rw [hL, hM] at hps K hW2 HT2
      rw [hL] at d0
      rw [hM] at d1
      have e0 : W2.cell? ⟨wr.heap.size, 0, none⟩ = some (.int .i64 L) := by rw [hW2]; go_simp
      have e1 : W2.cell? ⟨wr.heap.size, 1, none⟩ = some (.int .i64 M) := by rw [hW2]; go_simp
      have HE0 := hid e0
      have HE1 := hid e1
      have HW2 := hid hW2
      have HK := hid K
      have HBW2 := hid BW2
      clear hX hL hM e0 e1 hW2 K BW2
      obtain ⟨x, y, z⟩ := X
      simp only at HK hbd
      go_wp2_with (refine wpList_load_row rfl 69 (.tmp 2) rfl G rfl 69 (tabA (vals g)) (0, 0) _ HT2.out Try.underlying69 rfl (size61 _) ?_)
      rw [← HW2.out]
      refine HK.out.mono ?_
      rintro e w2 ⟨rfl, hb⟩
      have hbr := below_from HBW2.out hb
      have HBR := hid hbr
      have HE0' := hid (cell_later hb HE0.out)
      have HE1' := hid (cell_later hb HE1.out)
      have HO2 := hid (HO.out.keep hbr)
      have hsz2 : W0.heap.size ≤ w2.heap.size := by have := hbr.size; omega
      have hblk : wr.heap.size < w2.heap.size := block_lt_of_cell HE0'.out
      clear hb hbr c0 c1 c2 c3 c4 d0 d1 HW2 HK HBW2 HE0 HE1 HT2
      have HB2 := hid (below_from HB.out HBR.out)
      have HBX2 : Hid (RBox w2 B r pb po) := (HBR.out.block _ hBr).trans HBX.out
      have HTB2 := hid (HTB.out.later HBR.out)
      obtain ⟨c0, c1, c2, c3, c4⟩ := HBX2.out.cells
      cases y with
      | false =>
        have HS1 : Hid (eachSt r f (k + 1) = none) := by show eachSt r f (k + 1) = none; rw [eachSt, HST.out]; simp only [HX.out]; rfl
        have HAA : Hid (([], false) = A) := by show ([], false) = A; rw [← HA.out, none_on HNO.out HS1.out (by omega)]; rfl
        go_wp2
        go_ret2
        rw [← HAA.out]
        exact givesB_no HB2.out
      | true =>
        have HS1 : Hid (eachSt r f (k + 1) = some ((bumpR g x (x + L) (-M)).1, bs ++ [((k : Int), x)])) := by show eachSt r f (k + 1) = _; rw [eachSt, HST.out]; simp only [HX.out, HL.out, HM.out]; rfl
        obtain ⟨h48, hfi', hbdv, htab'⟩ := KR.out g HFI.out k hlt x L M z HX.out HL.out HM.out
        have HFI' := hid hfi'
        have HBV := hid hbdv
        have HT' := hid htab'
        clear hfi' hbdv htab'
        have tok : True := trivial
        go_wp2_with (at_builtin; have _t := tok; refine wpList_append_own _ rfl _ _ 42 rfl W0.heap.size 50 i0 (.agg #[.int .i64 0, .int .i64 0]) 2 16 Try.underlying42 hi0 hz0 hz1 hz2 rfl (by decide) _ _ _ rfl (HO2.out.alloc _) ⟨w2.heap.size, 0, none⟩ 1 1 [.int .i64 k, .int .i64 x] rfl rfl ?c1 ?c2 ?c3 ?c4 ?c5 ?_; clear tok)
        case c1 => exact two_new _ _ _ _
        case c2 => exact two_one _ _
        case c3 => have := HBL.out; simp only [maxLen]; omega
        case c4 => have := HBL.out; omega
        case c5 => simp; omega
        intro v' w3 hown' hgrow _
        have hs3 : w2.heap.size < w3.heap.size := by have := hgrow.size; simp at this; omega
        have hne : ∀ b, b < w2.heap.size → u9.ownBlock ≠ some b → w3.heap[b]? = w2.heap[b]? := fun b hb hno => (hgrow.block b (by simp; omega) (fun e => hno e.symm)).trans (Below.heap_alloc _ _ _ hb)
        have hO3 : OwnBites w3 W0.heap.size v' (bs ++ [((k : Int), x)]) := by unfold OwnBites; rw [cellsOf_app]; simpa using hown'
        have hb3 : Below w.heap.size w w3 := (HB2.out.alloc HB2.out.size _).grown hgrow (by have := HB2.out.size; simp; omega) (fun k hk => by have := (HO2.out.lt k hk).1; omega)
        have hB3 : w3.heap[B]? = w2.heap[B]? := hne _ (by omega) (fun e => by have := (HO2.out.lt _ e).1; omega)
        have hG3 : w3.heap[G]? = w2.heap[G]? := hne _ (by omega) (fun e => by have := (HO2.out.lt _ e).1; omega)
        have hP3 : w3.heap[wr.heap.size]? = w2.heap[wr.heap.size]? := hne _ hblk (fun e => by have := (HO.out.lt _ e).2; omega)
        have HKP : Hid (Keeps w w3 G B W0.heap.size wr.heap.size r pb po v' (bs ++ [((k : Int), x)]) L M) := ⟨hB3.trans HBX2.out, hO3, hb3, by omega, (World.cell?_of_block (w := w2) (a := ⟨wr.heap.size, 0, none⟩) hP3).trans HE0'.out, (World.cell?_of_block (w := w2) (a := ⟨wr.heap.size, 1, none⟩) hP3).trans HE1'.out⟩
        have HTB3 : Hid (Tab w3 G (vals g)) := hG3.trans HTB2.out
        obtain ⟨c0, c1, c2, c3, c4⟩ := HKP.out.box.cells
        obtain ⟨xn, hxn⟩ : ∃ xn : Nat, x = xn := ⟨x.toNat, by omega⟩
        have HXN := hid hxn
        clear hown' hgrow hne hB3 hG3 hP3 hO3 hb3 hxn
        go_wp2_with fail
        go_loopw [15] (fun s wi => ∃ i : Nat, s = .int .i64 i ∧ x ≤ i ∧ (i : Int) ≤ x + L ∧ Tab wi G (cutV g x M i) ∧ Keeps w wi G B W0.heap.size wr.heap.size r pb po v' (bs ++ [((k : Int), x)]) L M) (fun s _ => (x + L).toNat - (intOf s).toNat)
        case atStart => exact ⟨xn, by rw [HXN.out], by rw [HXN.out]; exact Int.le_refl _, by have := HXN.out; omega, by rw [cutV_first g x M xn (by have := HXN.out; omega)]; exact HTB3.out, HKP.out⟩
        case round =>
          obtain ⟨i, rfl, hi1, hi2, hti, hki⟩ := hrel
          have HTI := hid hti
          have HKI := hid hki
          clear hti hki c0 c1 c2 c3 c4
          obtain ⟨c0, c1, c2, c3, c4⟩ := HKI.out.box.cells
          have e0 := HKI.out.p0
          have e1 := HKI.out.p1
          by_cases hi : (i : Int) < x + L
          · have hi48 : (i : Int) < 48 := by omega
            have hin : i < 48 := by omega
            have tc := HTI.out.cell (i := i) hin
            rw [cutV_at] at tc
            have tfz := HTI.out.frozen i
            have hzb := HBV.out i hin
            obtain ⟨q, hq⟩ : ∃ q, vals g i = q := ⟨_, rfl⟩
            rw [hq] at tc hzb
            have HQ := hid hq
            clear hq
            go_wp2_with fail
            go_region
            all_goals (try go_wp2)
            all_goals go_roundw
            case rel => exact ⟨i + 1, by go_num, by omega, by omega, by rw [← cutV_next g x M i hi1, HQ.out]; exact HTI.out.set i _, (HKI.out.store (by have := HBG.out; omega) (by have := HBG.out; omega) (by omega) i _).drew⟩
            case measure => simp [intOf]; omega
          · have hie : (i : Int) = x + L := by omega
            have HIE := hid hie
            have hin : ¬ ((i : Int) < x + L) := hi
            go_wp2_with fail
            go_roundw
            case rel => exact ⟨k + 1, _, _, by go_num, by omega, rfl, HS1.out, HFI'.out, by have := HTI.out; unfold Tab at this ⊢; rw [HT'.out i HIE.out] at this; exact this, HKI.out.box, HKI.out.own, HKI.out.bel, HKI.out.size⟩
            case measure => simp [intOf]; omega
    · obtain rfl : k = r.pn := by omega
      have HAA : Hid ((bs, true) = A) := by show (bs, true) = A; rw [← HA.out, HST.out]; rfl
      obtain ⟨a', cap', rfl, hR⟩ := OwnBites.parts HO.out (by have := HBL.out; omega)
      go_wp2_with fail
      go_quiet (fail)
      go_wp2
      go_ret2
      rw [← HAA.out]
      exact ⟨_, _, _, rfl, hR.later (below_drewN (Below.refl _ _) _), below_drewN HB.out _⟩
end Go.Proofs.Ytlkaamgmjgkpaac
