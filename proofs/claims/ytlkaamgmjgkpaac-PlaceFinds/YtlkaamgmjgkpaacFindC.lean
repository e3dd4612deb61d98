/- Contract of the reference's find, of each kind: it answers just what a seeker's way answers. -/
import Derived.Test.YtlkaamgmjgkpaacFindB
import Derived.Test.YtlkaamgmjgkpaacPlaceF
namespace Go.Proofs.Ytlkaamgmjgkpaac
open Go.RowKit

theorem first_v {r : Rq} (hc : chkR false r = 0) {g : RunL} (hg : Fine g) {fm : Int} {k : Nat} (hk : k < r.ps.length) (h0 : 0 ≤ fm) : firstV (vals g) fm.toNat r.un.toNat (rAt r.ps k).toNat (rN r.ps k) = ((fst3 r g fm k).1, (fst3 r g fm k).2.1) := by
  have hp := piece_at hc hk
  have hs := spn_at hc
  unfold fst3 firstR firstV
  rw [if_pos (fine_iff.2 hg)]
  by_cases e : fm < r.un
  · have h2 : (spn fm r.un && wth (rAt r.ps k) 1 24) = true := by
      rw [Bool.and_eq_true]
      constructor
      · simp [spn]; omega
      · simp [wth]; omega
    rw [if_pos h2]
    show (match firstO g fm.toNat r.un.toNat (rAt r.ps k).toNat (rN r.ps k) with | some t => ((t : Int), true) | none => (0, false)) = _
    cases firstO g fm.toNat r.un.toNat (rAt r.ps k).toNat (rN r.ps k) <;> rfl
  · have h2 : (spn fm r.un && wth (rAt r.ps k) 1 24) = false := by
      rw [Bool.eq_false_iff]
      simp [spn]; omega
    rw [h2, if_neg (by decide), show r.un.toNat - fm.toNat = 0 from by omega]
    rfl
theorem first_fst (w : World) {r : Rq} (hc : chkR false r = 0) {g : RunL} (hg : Fine g) {fm : Int} {k : Nat} (hk : k < r.ps.length) (h0 : 0 ≤ fm) (h1 : fm ≤ 200) :
    Calls Try.prog 36 #[.agg (tabA (vals g)), .int .i64 fm, .int .i64 r.un, .int .i64 (rAt r.ps k), .int .i64 (rN r.ps k)] w fun e w' => e = .returned (.tuple #[.int .i64 (fst3 r g fm k).1, .bool (fst3 r g fm k).2.1]) ∧ Below w.heap.size w w' := by
  have hp := piece_at hc hk
  have hs := spn_at hc
  have K := first_any w (vals g) fm r.un (rAt r.ps k) (rN r.ps k) fm.toNat r.un.toNat (rAt r.ps k).toNat (by omega) (by omega) (by omega) (by omega) (by omega) (by omega) (by omega)
  rw [first_v hc hg hk h0] at K
  exact K

set_option maxRecDepth 100000 in
set_option maxHeartbeats 2000000 in
theorem findT_any (w : World) (f : RunL) (hf : Fine f) (r : Rq) (h : RqIn w r) (hc0 : chkR false r = 0) (hk4 : r.kind = 4) :
    Calls Try.prog 53 #[.agg (tabA (vals f)), .agg #[.int .i64 r.queue, .int .i64 r.fr, .int .i64 r.un, .int .i64 r.kind, .slice r.pa r.pn r.pc]] w fun e w' => GivesB w w' e (tightA r f) := by
  obtain ⟨A, hA⟩ : ∃ A, tightA r f = A := ⟨_, rfl⟩
  rw [hA]
  have KT := hid fun X (hX : Below w.heap.size w X) t ht0 ht1 => tightAt_any X f hf r (h.later hX) hc0 t ht0 ht1
  have hcb := h.capb
  have hle := h.le
  have HPN := hid h.len
  have hpp : 0 < r.pn := by have := of_decide_eq_true (chkR_zero.1 hc0).2.1; have := h.len; omega
  have hp3 : r.pn ≤ 3 := by have := of_decide_eq_true (chkR_zero.1 hc0).2.1; have := h.len; omega
  obtain ⟨pb, po, hpa, hpc⟩ := h.cells hpp
  have HPC := hid hpc
  have HPS := hid fun k (hk : k < r.pn) => piece_at hc0 (k := k) (by have := h.len; omega)
  have HSP := hid (spn_at hc0)
  have KF := hid fun (X : World) (g : RunL) (hg : Fine g) (fm : Int) (k : Nat) (hk : k < r.pn) (h0 : 0 ≤ fm) (h1 : fm ≤ 200) => first_fst X hc0 hg (k := k) (by have := h.len; omega) h0 h1
  obtain ⟨i0, hi0, hz0, hz1, hz2⟩ := info_parts Try.infoBite
  have B1 := hid (((Below.refl w.heap.size w).alloc (Nat.le_refl _) (.cells (tabA (vals f)) 69)).alloc (by simp) (.cells #[.int .i64 r.queue, .int .i64 r.fr, .int .i64 r.un, .int .i64 r.kind, .slice (some ⟨pb, po, none⟩) r.pn r.pc] 41))
  have TB := hid ((Tab.new w (vals f)).alloc (.cells #[.int .i64 r.queue, .int .i64 r.fr, .int .i64 r.un, .int .i64 r.kind, .slice (some ⟨pb, po, none⟩) r.pn r.pc] 41))
  have KB := hid (box_cells (w.alloc (.cells (tabA (vals f)) 69)) r)
  rw [hpa] at KB
  rw [hpa]
  rw [hpa] at KT
  have hkb : (r.kind == 4) = true := by simp [hk4]
  have HA := hid hA
  obtain ⟨F, hF⟩ : ∃ F : Nat, r.fr = F := ⟨r.fr.toNat, by have := HSP.out; omega⟩
  obtain ⟨U, hU⟩ : ∃ U : Nat, r.un = U := ⟨r.un.toNat, by have := HSP.out; omega⟩
  have HF := hid hF
  have HU := hid hU
  have HFU : Hid (F < U ∧ U ≤ 48) := by have := HSP.out; exact ⟨by omega, by omega⟩
  have HT : Hid (tightA r f = match findFrom (fun t => (rowSt r f t r.ps.length).isSome) F (U - F) with | some t => bitesOf (rowSt r f t r.ps.length) | none => ([], false)) := by
    show tightA r f = _
    rw [tightA, hF, hU, Int.toNat_natCast, Int.toNat_natCast]
    rfl
  clear hF hU hpc h hf hc0 hA hk4 KF HPC HPS
  go_enter Try.func53, Try.ntmps53
  go_wp2_with fail
  obtain ⟨W0, hW0⟩ : ∃ W0, (w.alloc (.cells (tabA (vals f)) 69)).alloc (.cells #[.int .i64 r.queue, .int .i64 r.fr, .int .i64 r.un, .int .i64 r.kind, .slice (some ⟨pb, po, none⟩) r.pn r.pc] 41) = W0 := ⟨_, rfl⟩
  obtain ⟨G, hG⟩ : ∃ G, w.heap.size = G := ⟨_, rfl⟩
  obtain ⟨B, hB⟩ : ∃ B, w.heap.size + 1 = B := ⟨_, rfl⟩
  have hsz0 : w.heap.size + 2 ≤ W0.heap.size := by rw [← hW0]; simp
  rw [hW0] at KB TB B1
  rw [World.size_alloc, hB] at KB
  rw [hB, hG, hW0]
  rw [hG] at TB
  have hGl : G < W0.heap.size := by omega
  have hBl : B < W0.heap.size := by omega
  have HBG := hid (show w.heap.size ≤ G ∧ w.heap.size ≤ B ∧ B ≠ G from by omega)
  clear hW0 hG hB
  obtain ⟨c0, c1, c2, c3, c4⟩ := KB.out W0 (Below.refl _ _)
  go_wp2_with fail
  go_loopw [6] (fun st wr => ∃ k : Nat, st = .int .i64 k ∧ F ≤ k ∧ k ≤ U ∧ findFrom (fun t => (rowSt r f t r.ps.length).isSome) F (U - F) = findFrom (fun t => (rowSt r f t r.ps.length).isSome) k (U - k) ∧ Below W0.heap.size W0 wr) (fun st _ => U - (intOf st).toNat)
  case atStart => exact ⟨F, by rw [HF.out], Nat.le_refl _, by have := HFU.out; omega, rfl, Below.refl _ _⟩
  case round =>
    clear c0 c1 c2 c3 c4
    obtain ⟨k, rfl, hk1, hk2, hfd, hbel⟩ := hrel
    have HFD := hid hfd
    have HB := hid hbel
    clear hfd hbel
    have HTB : Hid (Tab wr G (vals f)) := TB.out.later HB.out
    obtain ⟨c0, c1, c2, c3, c4⟩ := KB.out wr HB.out
    by_cases hlt : k < U
    · have hlt' : (k : Int) < r.un := by have := HU.out; omega
      have hk48 : (k : Int) ≤ 48 := by have := HFU.out; omega
      have K := KT.out wr (below_from B1.out HB.out) k (by omega) hk48
      cases hro : rowSt r f k r.ps.length with
      | none =>
        rw [hro] at K
        have HK := hid K
        clear K
        go_wp2_with (refine wpList_load_row rfl 69 (.tmp 2) rfl G rfl 69 (tabA (vals f)) (0, 0) _ HTB.out Try.underlying69 rfl (size61 _) ?_)
        refine HK.out.mono ?_
        rintro e w2 ⟨a', n', cap', rfl, hR, hb⟩
        have HB2 := hid (below_from HB.out hb)
        clear hb c0 c1 c2 c3 c4 hR
        have hno : (bitesOf (none : Option (Int × RunL))).2 = false := rfl
        rw [hno]
        go_wp2
        go_roundw
        case rel => exact ⟨k + 1, by go_num, by omega, by omega, by rw [HFD.out, findFrom_miss (by omega) (by show (rowSt r f k r.ps.length).isSome = false; rw [hro]; rfl)]; rfl, HB2.out⟩
        case measure => simp [intOf]; omega
      | some X =>
        have HAA : Hid (bitesOf (some X) = A) := by
          show bitesOf (some X) = A
          rw [← HA.out, HT.out, HFD.out, findFrom_hit (by omega) (by show (rowSt r f k r.ps.length).isSome = true; rw [hro]; rfl)]
          simp only [hro]
        rw [hro] at K
        have HK := hid K
        clear K
        go_wp2_with (refine wpList_load_row rfl 69 (.tmp 2) rfl G rfl 69 (tabA (vals f)) (0, 0) _ HTB.out Try.underlying69 rfl (size61 _) ?_)
        refine HK.out.mono ?_
        rintro e w2 ⟨a', n', cap', rfl, hR, hb⟩
        have HB2 := hid (below_from HB.out hb)
        have HRR := hid hR
        clear hb c0 c1 c2 c3 c4 hR
        have hyes : (bitesOf (some X)).2 = true := rfl
        rw [hyes]
        go_wp2
        go_ret2
        rw [← HAA.out]
        exact ⟨_, _, _, rfl, HRR.out, below_from B1.out HB2.out⟩
    · obtain rfl : k = U := by omega
      have hlt' : ¬ (k : Int) < r.un := by have := HU.out; omega
      have HAA : Hid (([], false) = A) := by
        show ([], false) = A
        rw [← HA.out, HT.out, HFD.out, Nat.sub_self]; rfl
      go_wp2
      go_ret2
      rw [← HAA.out]
      exact givesB_no (below_from B1.out HB.out)

set_option maxRecDepth 100000 in
set_option maxHeartbeats 4000000 in
theorem findO_any (w : World) (f : RunL) (hf : Fine f) (r : Rq) (h : RqIn w r) (hc0 : chkR false r = 0) (hk3 : r.kind = 3) :
    Calls Try.prog 53 #[.agg (tabA (vals f)), .agg #[.int .i64 r.queue, .int .i64 r.fr, .int .i64 r.un, .int .i64 r.kind, .slice r.pa r.pn r.pc]] w fun e w' => GivesB w w' e (bitesOf (orderSt r f r.ps.length)) := by
  obtain ⟨A, hA⟩ : ∃ A, bitesOf (orderSt r f r.ps.length) = A := ⟨_, rfl⟩
  rw [hA]
  have hcb := h.capb
  have hle := h.le
  have HPN := hid h.len
  have hpp : 0 < r.pn := by have := of_decide_eq_true (chkR_zero.1 hc0).2.1; have := h.len; omega
  have hp3 : r.pn ≤ 3 := by have := of_decide_eq_true (chkR_zero.1 hc0).2.1; have := h.len; omega
  obtain ⟨pb, po, hpa, hpc⟩ := h.cells hpp
  have HPC := hid hpc
  have HPS := hid fun k (hk : k < r.pn) => piece_at hc0 (k := k) (by have := h.len; omega)
  have HSP := hid (spn_at hc0)
  have KF := hid fun (X : World) (g : RunL) (hg : Fine g) (fm : Int) (k : Nat) (hk : k < r.pn) (h0 : 0 ≤ fm) (h1 : fm ≤ 200) => first_fst X hc0 hg (k := k) (by have := h.len; omega) h0 h1
  obtain ⟨i0, hi0, hz0, hz1, hz2⟩ := info_parts Try.infoBite
  have B1 := hid (((Below.refl w.heap.size w).alloc (Nat.le_refl _) (.cells (tabA (vals f)) 69)).alloc (by simp) (.cells #[.int .i64 r.queue, .int .i64 r.fr, .int .i64 r.un, .int .i64 r.kind, .slice (some ⟨pb, po, none⟩) r.pn r.pc] 41))
  have TB := hid ((Tab.new w (vals f)).alloc (.cells #[.int .i64 r.queue, .int .i64 r.fr, .int .i64 r.un, .int .i64 r.kind, .slice (some ⟨pb, po, none⟩) r.pn r.pc] 41))
  have KB := hid (box_cells (w.alloc (.cells (tabA (vals f)) 69)) r)
  rw [hpa] at KB
  rw [hpa]
  have hk4b : (r.kind == 4) = false := by simp [hk3]
  have hk1b : (r.kind == 1) = false := by simp [hk3]
  have hk2b : (r.kind == 2) = false := by simp [hk3]
  have hk2n : (r.kind != 2) = true := by simp [hk3]
  have hk3b : (r.kind == 3) = true := by simp [hk3]
  rw [← HPN.out] at hA
  have HA := hid hA
  have HNO := hid (order_none (r := r) (f := f))
  have HFI := hid hf
  clear hpc h hf hc0 hA hk3
  go_enter Try.func53, Try.ntmps53
  go_wp2_with fail
  obtain ⟨W0, hW0⟩ : ∃ W0, (w.alloc (.cells (tabA (vals f)) 69)).alloc (.cells #[.int .i64 r.queue, .int .i64 r.fr, .int .i64 r.un, .int .i64 r.kind, .slice (some ⟨pb, po, none⟩) r.pn r.pc] 41) = W0 := ⟨_, rfl⟩
  obtain ⟨G, hG⟩ : ∃ G, w.heap.size = G := ⟨_, rfl⟩
  obtain ⟨B, hB⟩ : ∃ B, w.heap.size + 1 = B := ⟨_, rfl⟩
  have hsz0 : w.heap.size + 2 ≤ W0.heap.size := by rw [← hW0]; simp
  rw [hW0] at KB TB B1
  rw [World.size_alloc, hB] at KB
  rw [hB, hG, hW0]
  rw [hG] at TB
  have hGl : G < W0.heap.size := by omega
  have hBl : B < W0.heap.size := by omega
  have HBG := hid (show w.heap.size ≤ G ∧ w.heap.size ≤ B ∧ B ≠ G from by omega)
  clear hW0 hG hB
  obtain ⟨c0, c1, c2, c3, c4⟩ := KB.out W0 (Below.refl _ _)
  go_wp2_with fail
  go_loopw [9, 10, 11] (fun v sf st wr => ∃ (k : Nat) (fm : Int) (bs : RunL), st = .int .i64 k ∧ k ≤ r.pn ∧ sf = .int .i64 fm ∧ 0 ≤ fm ∧ fm ≤ 72 ∧ orderSt r f k = some (fm, bs) ∧ OwnBites wr W0.heap.size v bs ∧ Below W0.heap.size W0 wr) (fun _ _ st _ => r.pn - (intOf st).toNat)
  case atStart => exact ⟨0, r.fr, [], rfl, by omega, rfl, by have := HSP.out; omega, by have := HSP.out; omega, rfl, World.ownsRow_nil _ _ _ _, Below.refl _ _⟩
  case round =>
    clear c0 c1 c2 c3 c4
    obtain ⟨k, fm, bs, rfl, hk, rfl, hf0, hf1, hst, hown, hbel⟩ := hrel
    have HST := hid hst
    have HO := hid hown
    have HB := hid hbel
    have hbl : bs.length = k := order_len hst
    have HBL := hid hbl
    have hszr : W0.heap.size ≤ wr.heap.size := hbel.size
    have hGr : G < wr.heap.size := by omega
    have hBr : B < wr.heap.size := by omega
    have hpbl : pb < wr.heap.size := Nat.lt_of_lt_of_le (block_lt_of_cell (HPC.out 0 hpp).1) (by omega)
    clear hst hown hbel hbl
    have HTB : Hid (Tab wr G (vals f)) := TB.out.later HB.out
    obtain ⟨c0, c1, c2, c3, c4⟩ := KB.out wr HB.out
    by_cases hlt : k < r.pn
    · have hlt' : (k : Int) < r.pn := by omega
      have d0 := cell_later (below_from B1.out HB.out) (HPC.out k hlt).1
      have d1 := cell_later (below_from B1.out HB.out) (HPC.out k hlt).2
      have hps := HPS.out k hlt
      obtain ⟨W2, hW2⟩ : ∃ W2, W2 = wr.alloc (.cells #[.int .i64 (rAt r.ps k), .int .i64 (rN r.ps k)] 100) := ⟨_, rfl⟩
      have HT2 : Hid (Tab (wr.alloc (.cells #[.int .i64 (rAt r.ps k), .int .i64 (rN r.ps k)] 100)) G (vals f)) := HTB.out.alloc _
      have BW2 : Below wr.heap.size wr W2 := by rw [hW2]; exact (Below.refl _ _).alloc (Nat.le_refl _) _
      have K := KF.out W2 f HFI.out fm k hlt (by have := HSP.out; omega) (by have := HSP.out; omega)
      have hbd := fst3_bd r f fm k
      obtain ⟨X, hX⟩ : ∃ X, fst3 r f fm k = X := ⟨_, rfl⟩
      rw [hX] at K hbd
      have HX := hid hX
      obtain ⟨L, hL⟩ : ∃ L, rAt r.ps k = L := ⟨_, rfl⟩
      obtain ⟨M, hM⟩ : ∃ M, rN r.ps k = M := ⟨_, rfl⟩
      have HL := hid hL
      have HM := hid hM
      rw [hL, hM] at hps K hW2 HT2
      rw [hL] at d0
      rw [hM] at d1
      have e0 : W2.cell? ⟨wr.heap.size, 0, none⟩ = some (.int .i64 L) := by rw [hW2]; go_simp
      have e1 : W2.cell? ⟨wr.heap.size, 1, none⟩ = some (.int .i64 M) := by rw [hW2]; go_simp
      have HE0 := hid e0
      have HE1 := hid e1
      have HW2 := hid hW2
      have HK := hid K
      have HBW2 := hid BW2
      clear hX hL hM e0 e1 hW2 K BW2
      obtain ⟨x, y, z⟩ := X
      simp only at HK hbd
      go_wp2_with (refine wpList_load_row rfl 69 (.tmp 2) rfl G rfl 69 (tabA (vals f)) (0, 0) _ HT2.out Try.underlying69 rfl (size61 _) ?_)
      rw [← HW2.out]
      refine HK.out.mono ?_
      rintro e w2 ⟨rfl, hb⟩
      have hbr := below_from HBW2.out hb
      have HBR := hid hbr
      have HE0' := hid (cell_later hb HE0.out)
      have HE1' := hid (cell_later hb HE1.out)
      have HO2 := hid (HO.out.keep hbr)
      have hsz2 : W0.heap.size ≤ w2.heap.size := by have := hbr.size; omega
      have hblk : wr.heap.size < w2.heap.size := block_lt_of_cell HE0'.out
      clear hb hbr c0 c1 c2 c3 c4 d0 d1 HW2 HK HBW2 HE0 HE1 HT2
      have HB2 := hid (below_from HB.out HBR.out)
      obtain ⟨c0, c1, c2, c3, c4⟩ := KB.out w2 HB2.out
      cases y with
      | false =>
        have HS1 : Hid (orderSt r f (k + 1) = none) := by show orderSt r f (k + 1) = none; rw [orderSt, HST.out]; simp only [HX.out]; rfl
        have HAA : Hid (([], false) = A) := by show ([], false) = A; rw [← HA.out, none_on HNO.out HS1.out (by omega)]; rfl
        go_wp2
        go_ret2
        rw [← HAA.out]
        exact givesB_no (below_from B1.out HB2.out)
      | true =>
        have HS1 : Hid (orderSt r f (k + 1) = some (x + L, bs ++ [((k : Int), x)])) := by show orderSt r f (k + 1) = _; rw [orderSt, HST.out]; simp only [HX.out, HL.out]; rfl
        have tok : True := trivial
        go_wp2_with (at_builtin; have _t := tok; refine wpList_append_own _ rfl _ _ 42 rfl W0.heap.size 50 i0 (.agg #[.int .i64 0, .int .i64 0]) 2 16 Try.underlying42 hi0 hz0 hz1 hz2 rfl (by decide) _ _ _ rfl (HO2.out.alloc _) ⟨w2.heap.size, 0, none⟩ 1 1 [.int .i64 k, .int .i64 x] rfl rfl ?c1 ?c2 ?c3 ?c4 ?c5 ?_; clear tok)
        case c1 => exact two_new _ _ _ _
        case c2 => exact two_one _ _
        case c3 => have := HBL.out; simp only [maxLen]; omega
        case c4 => have := HBL.out; omega
        case c5 => simp; omega
        intro v' w3 hown' hgrow _
        have R := hid (bites_more HB2.out hsz2 HO2.out hown' hgrow)
        have hP3 : w3.heap[wr.heap.size]? = w2.heap[wr.heap.size]? := (hgrow.block wr.heap.size (by simp; omega) (fun e => by have := (HO.out.lt _ e.symm).2; omega)).trans (Below.heap_alloc _ _ _ hblk)
        have e0 : w3.cell? ⟨wr.heap.size, 0, none⟩ = some (.int .i64 L) := (World.cell?_of_block (w := w2) (a := ⟨wr.heap.size, 0, none⟩) hP3).trans HE0'.out
        have e1 : w3.cell? ⟨wr.heap.size, 1, none⟩ = some (.int .i64 M) := (World.cell?_of_block (w := w2) (a := ⟨wr.heap.size, 1, none⟩) hP3).trans HE1'.out
        clear hown' hgrow hP3 c0 c1 c2 c3 c4
        obtain ⟨c0, c1, c2, c3, c4⟩ := KB.out w3 R.out.2.1
        go_wp2_with fail
        go_loop [15] (fun s => s = .int .i64 x) (fun _ => 0)
        case atStart => rfl
        case round =>
          subst hrel
          go_wp2_with fail
          go_roundw
          case rel => exact ⟨k + 1, x + L, bs ++ [((k : Int), x)], by go_num, by omega, rfl, by omega, by omega, HS1.out, R.out.1, R.out.2.1⟩
          case measure => simp [intOf]; omega
    · obtain rfl : k = r.pn := by omega
      have HAA : Hid ((bs, true) = A) := by show (bs, true) = A; rw [← HA.out, HST.out]; rfl
      obtain ⟨a', cap', rfl, hR⟩ := OwnBites.parts HO.out (by have := HBL.out; omega)
      go_wp2_with fail
      go_quiet (fail)
      go_wp2
      go_ret2
      rw [← HAA.out]
      exact ⟨_, _, _, rfl, hR.later (below_drewN (Below.refl _ _) _), below_drewN (below_from B1.out HB.out) _⟩
end Go.Proofs.Ytlkaamgmjgkpaac
