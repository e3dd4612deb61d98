/- Contract of the reference's find, of kind One: the first piece that has a place. -/
import Derived.Test.YtlkaamgmjgkpaacFindC
namespace Go.Proofs.Ytlkaamgmjgkpaac
open Go.RowKit

/-- as GivesB; where no place is found, the bites do not count -/
def GivesW (w w' : World) (e : Ending) (x : RunL × Bool) : Prop := ∃ a n cap, e = .returned (.tuple #[.slice a n cap, .bool x.2]) ∧ (x.2 = true → RunsIn w' a n cap x.1) ∧ Below w.heap.size w w'
theorem GivesB.weak {w w' : World} {e : Ending} {x : RunL × Bool} (h : GivesB w w' e x) : GivesW w w' e x := by
  obtain ⟨a, n, cap, h1, h2, h3⟩ := h
  exact ⟨a, n, cap, h1, fun _ => h2, h3⟩

set_option maxRecDepth 100000 in
set_option maxHeartbeats 4000000 in
theorem findN_any (w : World) (f : RunL) (hf : Fine f) (r : Rq) (h : RqIn w r) (hc0 : chkR false r = 0) (hk2 : r.kind = 2) :
    Calls Try.prog 53 #[.agg (tabA (vals f)), .agg #[.int .i64 r.queue, .int .i64 r.fr, .int .i64 r.un, .int .i64 r.kind, .slice r.pa r.pn r.pc]] w fun e w' => GivesW w w' e (oneA r f) := by
  obtain ⟨A, hA⟩ : ∃ A, oneA r f = A := ⟨_, rfl⟩
  rw [hA]
  have hcb := h.capb
  have hle := h.le
  have HPN := hid h.len
  have hpp : 0 < r.pn := by have := of_decide_eq_true (chkR_zero.1 hc0).2.1; have := h.len; omega
  have hp3 : r.pn ≤ 3 := by have := of_decide_eq_true (chkR_zero.1 hc0).2.1; have := h.len; omega
  obtain ⟨pb, po, hpa, hpc⟩ := h.cells hpp
  have HPC := hid hpc
  have HPS := hid fun k (hk : k < r.pn) => piece_at hc0 (k := k) (by have := h.len; omega)
  have HSP := hid (spn_at hc0)
  have KF := hid fun (X : World) (g : RunL) (hg : Fine g) (fm : Int) (k : Nat) (hk : k < r.pn) (h0 : 0 ≤ fm) (h1 : fm ≤ 200) => first_fst X hc0 hg (k := k) (by have := h.len; omega) h0 h1
  obtain ⟨i0, hi0, hz0, hz1, hz2⟩ := info_parts Try.infoBite
  have B1 := hid (((Below.refl w.heap.size w).alloc (Nat.le_refl _) (.cells (tabA (vals f)) 69)).alloc (by simp) (.cells #[.int .i64 r.queue, .int .i64 r.fr, .int .i64 r.un, .int .i64 r.kind, .slice (some ⟨pb, po, none⟩) r.pn r.pc] 41))
  have TB := hid ((Tab.new w (vals f)).alloc (.cells #[.int .i64 r.queue, .int .i64 r.fr, .int .i64 r.un, .int .i64 r.kind, .slice (some ⟨pb, po, none⟩) r.pn r.pc] 41))
  have KB := hid (box_cells (w.alloc (.cells (tabA (vals f)) 69)) r)
  rw [hpa] at KB
  rw [hpa]
  have hk4b : (r.kind == 4) = false := by simp [hk2]
  have hk1b : (r.kind == 1) = false := by simp [hk2]
  have hk2b : (r.kind == 2) = true := by simp [hk2]
  have hk2n : (r.kind != 2) = false := by simp [hk2]
  have hk3b : (r.kind == 3) = false := by simp [hk2]
  have HFI := hid hf
  have HA : Hid (∀ k, k ≤ r.pn → findFrom (fun k => (fst3 r f r.fr k).2.1) 0 r.pn = findFrom (fun k => (fst3 r f r.fr k).2.1) k (r.pn - k) → (k = r.pn → A = ([], false)) ∧ (k < r.pn → (fst3 r f r.fr k).2.1 = true → A = ([((k : Int), (fst3 r f r.fr k).1)], true))) := by
    intro k hk he
    rw [← hA, oneA, ← HPN.out, he]
    refine ⟨fun e => by subst e; rw [Nat.sub_self]; rfl, fun hlt ht => by rw [findFrom_hit (by omega) ht]⟩
  clear hpc h hf hc0 hA hk2
  go_enter Try.func53, Try.ntmps53
  go_wp2_with fail
  obtain ⟨W0, hW0⟩ : ∃ W0, (w.alloc (.cells (tabA (vals f)) 69)).alloc (.cells #[.int .i64 r.queue, .int .i64 r.fr, .int .i64 r.un, .int .i64 r.kind, .slice (some ⟨pb, po, none⟩) r.pn r.pc] 41) = W0 := ⟨_, rfl⟩
  obtain ⟨G, hG⟩ : ∃ G, w.heap.size = G := ⟨_, rfl⟩
  obtain ⟨B, hB⟩ : ∃ B, w.heap.size + 1 = B := ⟨_, rfl⟩
  have hsz0 : w.heap.size + 2 ≤ W0.heap.size := by rw [← hW0]; simp
  rw [hW0] at KB TB B1
  rw [World.size_alloc, hB] at KB
  rw [hB, hG, hW0]
  rw [hG] at TB
  have hGl : G < W0.heap.size := by omega
  have hBl : B < W0.heap.size := by omega
  have HBG := hid (show w.heap.size ≤ G ∧ w.heap.size ≤ B ∧ B ≠ G from by omega)
  clear hW0 hG hB
  obtain ⟨c0, c1, c2, c3, c4⟩ := KB.out W0 (Below.refl _ _)
  go_wp2_with fail
  go_loopw [9, 10, 11] (fun v sf st wr => ∃ (k : Nat) (bs : RunL), st = .int .i64 k ∧ k ≤ r.pn ∧ sf = .int .i64 r.fr ∧ findFrom (fun k => (fst3 r f r.fr k).2.1) 0 r.pn = findFrom (fun k => (fst3 r f r.fr k).2.1) k (r.pn - k) ∧ bs.length = k ∧ OwnBites wr W0.heap.size v bs ∧ Below W0.heap.size W0 wr) (fun _ _ st _ => r.pn - (intOf st).toNat)
  case atStart => exact ⟨0, [], rfl, by omega, rfl, rfl, rfl, World.ownsRow_nil _ _ _ _, Below.refl _ _⟩
  case round =>
    clear c0 c1 c2 c3 c4
    obtain ⟨k, bs, rfl, hk, rfl, hfd, hbl, hown, hbel⟩ := hrel
    have HFD := hid hfd
    have HO := hid hown
    have HB := hid hbel
    have HBL := hid hbl
    have hszr : W0.heap.size ≤ wr.heap.size := hbel.size
    have hGr : G < wr.heap.size := by omega
    have hBr : B < wr.heap.size := by omega
    have hpbl : pb < wr.heap.size := Nat.lt_of_lt_of_le (block_lt_of_cell (HPC.out 0 hpp).1) (by omega)
    clear hfd hown hbel hbl
    have HTB : Hid (Tab wr G (vals f)) := TB.out.later HB.out
    obtain ⟨c0, c1, c2, c3, c4⟩ := KB.out wr HB.out
    by_cases hlt : k < r.pn
    · have hlt' : (k : Int) < r.pn := by omega
      have d0 := cell_later (below_from B1.out HB.out) (HPC.out k hlt).1
      have d1 := cell_later (below_from B1.out HB.out) (HPC.out k hlt).2
      have hps := HPS.out k hlt
      obtain ⟨W2, hW2⟩ : ∃ W2, W2 = wr.alloc (.cells #[.int .i64 (rAt r.ps k), .int .i64 (rN r.ps k)] 100) := ⟨_, rfl⟩
      have HT2 : Hid (Tab (wr.alloc (.cells #[.int .i64 (rAt r.ps k), .int .i64 (rN r.ps k)] 100)) G (vals f)) := HTB.out.alloc _
      have BW2 : Below wr.heap.size wr W2 := by rw [hW2]; exact (Below.refl _ _).alloc (Nat.le_refl _) _
      have K := KF.out W2 f HFI.out r.fr k hlt (by have := HSP.out; omega) (by have := HSP.out; omega)
      have hbd := fst3_bd r f r.fr k
      obtain ⟨X, hX⟩ : ∃ X, fst3 r f r.fr k = X := ⟨_, rfl⟩
      rw [hX] at K hbd
      have HX := hid hX
      obtain ⟨L, hL⟩ : ∃ L, rAt r.ps k = L := ⟨_, rfl⟩
      obtain ⟨M, hM⟩ : ∃ M, rN r.ps k = M := ⟨_, rfl⟩
      have HL := hid hL
      have HM := hid hM
      rw [hL, hM] at hps K hW2 HT2
      rw [hL] at d0
      rw [hM] at d1
      have e0 : W2.cell? ⟨wr.heap.size, 0, none⟩ = some (.int .i64 L) := by rw [hW2]; go_simp
      have e1 : W2.cell? ⟨wr.heap.size, 1, none⟩ = some (.int .i64 M) := by rw [hW2]; go_simp
      have HE0 := hid e0
      have HE1 := hid e1
      have HW2 := hid hW2
      have HK := hid K
      have HBW2 := hid BW2
      clear hX hL hM e0 e1 hW2 K BW2
      obtain ⟨x, y, z⟩ := X
      simp only at HK hbd
      go_wp2_with (refine wpList_load_row rfl 69 (.tmp 2) rfl G rfl 69 (tabA (vals f)) (0, 0) _ HT2.out Try.underlying69 rfl (size61 _) ?_)
      rw [← HW2.out]
      refine HK.out.mono ?_
      rintro e w2 ⟨rfl, hb⟩
      have hbr := below_from HBW2.out hb
      have HBR := hid hbr
      have HE0' := hid (cell_later hb HE0.out)
      have HE1' := hid (cell_later hb HE1.out)
      have HO2 := hid (HO.out.keep hbr)
      have hsz2 : W0.heap.size ≤ w2.heap.size := by have := hbr.size; omega
      have hblk : wr.heap.size < w2.heap.size := block_lt_of_cell HE0'.out
      clear hb hbr c0 c1 c2 c3 c4 d0 d1 HW2 HK HBW2 HE0 HE1 HT2
      have HB2 := hid (below_from HB.out HBR.out)
      obtain ⟨c0, c1, c2, c3, c4⟩ := KB.out w2 HB2.out
      cases y with
      | true =>
        have HAA := hid ((HA.out k hk HFD.out).2 hlt (by rw [HX.out]))
        rw [HX.out] at HAA
        go_wp2
        go_ret2
        rw [HAA.out]
        exact ⟨_, 1, 1, rfl, fun _ => pairs_lit w2 [((k : Int), x)] _ 50 1 rfl rfl (by simp), (below_from B1.out HB2.out).alloc (by omega) _⟩
      | false =>
        have HF1 : Hid (findFrom (fun k => (fst3 r f r.fr k).2.1) 0 r.pn = findFrom (fun k => (fst3 r f r.fr k).2.1) (k + 1) (r.pn - (k + 1))) := by
          show findFrom (fun k => (fst3 r f r.fr k).2.1) 0 r.pn = findFrom (fun k => (fst3 r f r.fr k).2.1) (k + 1) (r.pn - (k + 1))
          rw [HFD.out, findFrom_miss (by omega) (by rw [HX.out])]
          rfl
        have tok : True := trivial
        go_wp2_with (at_builtin; have _t := tok; refine wpList_append_own _ rfl _ _ 42 rfl W0.heap.size 50 i0 (.agg #[.int .i64 0, .int .i64 0]) 2 16 Try.underlying42 hi0 hz0 hz1 hz2 rfl (by decide) _ _ _ rfl (HO2.out.alloc _) ⟨w2.heap.size, 0, none⟩ 1 1 [.int .i64 k, .int .i64 x] rfl rfl ?c1 ?c2 ?c3 ?c4 ?c5 ?_; clear tok)
        case c1 => exact two_new _ _ _ _
        case c2 => exact two_one _ _
        case c3 => have := HBL.out; simp only [maxLen]; omega
        case c4 => have := HBL.out; omega
        case c5 => simp; omega
        intro v' w3 hown' hgrow _
        have R := hid (bites_more HB2.out hsz2 HO2.out hown' hgrow)
        have hP3 : w3.heap[wr.heap.size]? = w2.heap[wr.heap.size]? := (hgrow.block wr.heap.size (by simp; omega) (fun e => by have := (HO.out.lt _ e.symm).2; omega)).trans (Below.heap_alloc _ _ _ hblk)
        have e0 : w3.cell? ⟨wr.heap.size, 0, none⟩ = some (.int .i64 L) := (World.cell?_of_block (w := w2) (a := ⟨wr.heap.size, 0, none⟩) hP3).trans HE0'.out
        have e1 : w3.cell? ⟨wr.heap.size, 1, none⟩ = some (.int .i64 M) := (World.cell?_of_block (w := w2) (a := ⟨wr.heap.size, 1, none⟩) hP3).trans HE1'.out
        clear hown' hgrow hP3 c0 c1 c2 c3 c4
        obtain ⟨c0, c1, c2, c3, c4⟩ := KB.out w3 R.out.2.1
        go_wp2_with fail
        go_loop [15] (fun s => s = .int .i64 x) (fun _ => 0)
        case atStart => rfl
        case round =>
          subst hrel
          go_wp2_with fail
          go_roundw
          case rel => exact ⟨k + 1, bs ++ [((k : Int), x)], by go_num, by omega, rfl, HF1.out, by have := HBL.out; simp; omega, R.out.1, R.out.2.1⟩
          case measure => simp [intOf]; omega
    · obtain rfl : k = r.pn := by omega
      have HAA := hid ((HA.out r.pn hk HFD.out).1 rfl)
      obtain ⟨a', cap', rfl, hR⟩ := OwnBites.parts HO.out (by have := HBL.out; omega)
      go_wp2_with fail
      go_quiet (fail)
      go_wp2
      go_ret2
      rw [HAA.out]
      exact ⟨_, _, _, rfl, fun h => (by cases h), below_drewN (below_from B1.out HB.out) _⟩
end Go.Proofs.Ytlkaamgmjgkpaac
