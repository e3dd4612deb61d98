/- Contract of req.Meets: are the bites what the request wants? -/
import Derived.Test.YtcgchicdmgllaadReqC
namespace Go.Proofs.Ytcgchicdmgllaad
open Go.RowKit

theorem meets_bad {r : Rq} {b : RunL} {n j : Nat} (hn : Hid (n = b.length)) (hj : j < n) (h : biteOk r b j = false) : meets r b = false := by
  rw [meets, ← hn.out, allN_false h n hj]; simp
theorem piece_at {r : Rq} {k : Nat} (h : chkR false r = 0) (hk : k < r.ps.length) : 1 ≤ rAt r.ps k ∧ rAt r.ps k ≤ 24 ∧ 1 ≤ rN r.ps k ∧ rN r.ps k ≤ 50 := by
  obtain ⟨h1, h2, h3⟩ := chkR_zero.1 h
  rw [rangeOk, Bool.and_eq_true] at h3
  have h4 := allN_iff.1 h3.2 k hk
  rw [pieceOk, Bool.and_eq_true] at h4
  have h5 := of_decide_eq_true h4.1
  have h6 := of_decide_eq_true h4.2
  exact ⟨h5.1, h5.2, h6.1, h6.2⟩
theorem spn_at {r : Rq} (h : chkR false r = 0) : 0 ≤ r.fr ∧ r.fr < r.un ∧ r.un ≤ 48 := by
  obtain ⟨h1, h2, h3⟩ := chkR_zero.1 h
  rw [rangeOk, Bool.and_eq_true] at h3
  have := h3.1
  simp [spn] at this
  omega
theorem isPiece_at {r : Rq} {b : RunL} {i : Nat} (h : isPiece r b i = true) : 0 ≤ rAt b i ∧ rAt b i < r.ps.length := by
  have := of_decide_eq_true h; omega
theorem lenOf_at {r : Rq} {b : RunL} {i : Nat} (hc : chkR false r = 0) (h : isPiece r b i = true) : 1 ≤ lenOf r b i ∧ lenOf r b i ≤ 24 := by
  have h1 := isPiece_at h
  have := piece_at hc (k := (rAt b i).toNat) (by omega)
  exact ⟨this.1, this.2.1⟩
theorem biteOk_at {r : Rq} {b : RunL} {i : Nat} (h : biteOk r b i = true) : isPiece r b i = true ∧ inTime r b i = true ∧ (i = 0 ∨ followsB r b (i - 1) i = true) := by
  simp [biteOk] at h
  exact ⟨h.1.1, h.1.2, h.2⟩
theorem inTime_at {r : Rq} {b : RunL} {i : Nat} (h : inTime r b i = true) : r.fr ≤ rN b i ∧ rN b i ≤ r.un - lenOf r b i := of_decide_eq_true h

/-- one operation of a region is taken first: its slot is set -/
theorem takeH {P : Program} {md : Region.Mode} {ops : Array Oper} {Q : Exit → Act → World → Prop} {S : World → Prop} {i : Nat} {oi : Oper} {d : Nat} {v : Value} {fuel : Nat} {listed : Array Bool} {T : Array Value} {df : List Deferred} {w : World}
    (hi : ops[i]? = some oi) (hd : oi.dst = some d) (hs : Region.noSelect ops = true) (hf : Region.free md ops listed i = true) (hr : (Region.ready md ops listed).contains i = true)
    (hQ : ∀ c a w, Q (.panic c) (a.put oi.dst v) w → Q (.panic c) a w) (hw : Region.wanted oi (yielded ops T) = true) (hy : ∀ w, S w → (execOp (Act.eval ⟨T, df⟩) oi).run P w = .ok (.value v) w) (hS : S w)
    (h : wpAnyH P md ops Q S fuel (listed.setIfInBounds i true) ⟨T.setIfInBounds d v, df⟩ w) : wpAnyH P md ops Q S (fuel + 1) listed ⟨T, df⟩ w :=
  wpAnyH_take hi hs hf hr hQ (Or.inl ⟨hw, hy⟩) hS (by rw [hd]; exact h)
/-- one that is not wanted yields nothing -/
theorem skipH {P : Program} {md : Region.Mode} {ops : Array Oper} {Q : Exit → Act → World → Prop} {S : World → Prop} {i : Nat} {oi : Oper} {d : Nat} {fuel : Nat} {listed : Array Bool} {T : Array Value} {df : List Deferred} {w : World}
    (hi : ops[i]? = some oi) (hd : oi.dst = some d) (hs : Region.noSelect ops = true) (hf : Region.free md ops listed i = true) (hr : (Region.ready md ops listed).contains i = true)
    (hQ : ∀ c a w, Q (.panic c) (a.put oi.dst undef) w → Q (.panic c) a w) (hw : Region.wanted oi (yielded ops T) = false) (hS : S w)
    (h : wpAnyH P md ops Q S fuel (listed.setIfInBounds i true) ⟨T.setIfInBounds d undef, df⟩ w) : wpAnyH P md ops Q S (fuel + 1) listed ⟨T, df⟩ w :=
  wpAnyH_take hi hs hf hr hQ (Or.inr ⟨hw, rfl⟩) hS (by rw [hd]; exact h)

theorem below_drew1 {W w' : World} (h : Below (W.drewN 1).heap.size (W.drewN 1) w') : Below W.heap.size W w' := below_from (below_of_drawn ⟨1, rfl⟩) h

set_option maxHeartbeats 4000000 in
theorem Meets_some (w : World) (r : Rq) (h : RqIn w r) (bb bo bn bc : Nat) (b : RunL) (hb : RunsIn w (some ⟨bb, bo, none⟩) bn bc b) (hc0 : chkR false r = 0) (hbn : (bn : Int) = wantedN r) (hpos : 0 < bn) :
    Calls Try.prog 14 #[.agg #[.int .i64 r.queue, .int .i64 r.fr, .int .i64 r.un, .int .i64 r.kind, .slice r.pa r.pn r.pc], .slice (some ⟨bb, bo, none⟩) bn bc] w fun e w' => e = .returned (.bool (meets r b)) ∧ Below w.heap.size w w' := by
  have HN := hid hb.len
  have hle := hb.le
  have hcb := hb.capb
  have hpp : 0 < r.pn := by have := of_decide_eq_true (chkR_zero.1 hc0).2.1; have := h.len; omega
  obtain ⟨pb, po, hpa, hpc⟩ := h.cells hpp
  have HPC := hid hpc
  clear hpc
  have B1 := hid ((Below.refl w.heap.size w).alloc (Nat.le_refl _) (.cells #[.int .i64 r.queue, .int .i64 r.fr, .int .i64 r.un, .int .i64 r.kind, .slice (some ⟨pb, po, none⟩) r.pn r.pc] 37))
  have K1 := hid fun w1 (hb : Below w.heap.size w w1) => wrong_any w1 r (h.later hb)
  have K2 := hid fun w1 (hb : Below w.heap.size w w1) => wanted_any w1 r (h.later hb)
  have K3 := hid fun w1 (hb : Below w.heap.size w w1) p t => noPiece_any w1 r (h.later hb) p t
  have K4 := hid fun w1 (hb : Below w.heap.size w w1) p0 t0 p1 t1 => follows_any w1 r (h.later hb) p0 t0 p1 t1
  rw [hpa] at K1 K2 K3 K4
  rw [hpa]
  have KC : Hid (∀ X : World, Below (w.alloc (.cells #[.int .i64 r.queue, .int .i64 r.fr, .int .i64 r.un, .int .i64 r.kind, .slice (some ⟨pb, po, none⟩) r.pn r.pc] 37)).heap.size (w.alloc (.cells #[.int .i64 r.queue, .int .i64 r.fr, .int .i64 r.un, .int .i64 r.kind, .slice (some ⟨pb, po, none⟩) r.pn r.pc] 37)) X → X.cell? ⟨w.heap.size, 0, none⟩ = some (.int .i64 r.queue) ∧ X.cell? ⟨w.heap.size, 1, none⟩ = some (.int .i64 r.fr) ∧ X.cell? ⟨w.heap.size, 2, none⟩ = some (.int .i64 r.un) ∧ X.cell? ⟨w.heap.size, 3, none⟩ = some (.int .i64 r.kind) ∧ X.cell? ⟨w.heap.size, 4, none⟩ = some (.slice (some ⟨pb, po, none⟩) r.pn r.pc)) :=
    fun X B2 => ⟨cell_later B2 (by go_simp), cell_later B2 (by go_simp), cell_later B2 (by go_simp), cell_later B2 (by go_simp), cell_later B2 (by go_simp)⟩
  obtain ⟨b', off', e, hcc⟩ := hb.cells hpos
  cases e
  have HC := hid hcc
  clear hcc
  have HPN := hid h.len
  have hple := h.le
  have hpcb := h.capb
  have HC0 := hid hc0
  have HS := hid (spn_at hc0)
  have HBN := hid hbn
  have hx0 : decide (chkR false r ≠ 0) = false := by rw [hc0]; rfl
  rw [hx0] at K1
  rw [← hbn] at K2
  clear hx0 hc0 hbn hpa h hb
  go_enter Try.func14, Try.ntmps14
  go_wp2_with fail
  refine (K1.out _ B1.out).mono ?_
  rintro e w1 ⟨rfl, B2⟩
  have B3 := hid (below_from B1.out B2)
  have B2H := hid B2
  obtain ⟨c0, c1, c2, c3, c4⟩ := KC.out w1 B2
  clear B2
  go_wp2_with fail
  refine (K2.out w1 B3.out).mono ?_
  rintro e w2 ⟨rfl, B4⟩
  have B5 := hid (below_from B2H.out B4)
  clear B4 B3 B2H c0 c1 c2 c3 c4
  go_wp2_with fail
  obtain ⟨W0, hW0⟩ : ∃ W0, W0 = w.alloc (.cells #[.int .i64 r.queue, .int .i64 r.fr, .int .i64 r.un, .int .i64 r.kind, .slice (some ⟨pb, po, none⟩) r.pn r.pc] 37) := ⟨_, rfl⟩
  have hsz0 : w.heap.size < W0.heap.size := by rw [hW0]; simp
  rw [← hW0] at B5 KC B1
  have HCB : Hid (∀ i, i < bn → W0.cell? ⟨bb, bo + i * 2, none⟩ = some (.int .i64 (rAt b i)) ∧ W0.cell? ⟨bb, bo + i * 2 + 1, none⟩ = some (.int .i64 (rN b i))) := fun i hi => ⟨cell_later B1.out (HC.out i hi).1, cell_later B1.out (HC.out i hi).2⟩
  have HPB : Hid (∀ i, i < r.pn → W0.cell? ⟨pb, po + i * 2, none⟩ = some (.int .i64 (rAt r.ps i))) := fun i hi => cell_later B1.out (HPC.out i hi).1
  clear HC HPC hW0 K1 K2
  go_loopw [18] (fun st wr => ∃ j : Nat, st = .int .i64 j ∧ j ≤ bn ∧ allN (biteOk r b) j = true ∧ Below W0.heap.size W0 wr) (fun st _ => bn - (intOf st).toNat)
  case atStart => exact ⟨0, rfl, by omega, rfl, B5.out⟩
  case round =>
    clear B5
    obtain ⟨j, rfl, hj, hall, hbel⟩ := hrel
    have HA := hid hall
    have HB := hid hbel
    clear hall hbel
    by_cases hlt : j < bn
    · have hlt' : (j : Int) < bn := by omega
      have d0 := cell_later HB.out (HCB.out j hlt).1
      have d1 := cell_later HB.out (HCB.out j hlt).2
      obtain ⟨pj, hpj⟩ : ∃ x, rAt b j = x := ⟨_, rfl⟩
      obtain ⟨tj, htj⟩ : ∃ x, rN b j = x := ⟨_, rfl⟩
      rw [hpj] at d0
      rw [htj] at d1
      have HPJ := hid hpj
      have HTJ := hid htj
      clear hpj htj
      obtain ⟨W2, hW2⟩ : ∃ W2, W2 = wr.alloc (.cells #[.int .i64 pj, .int .i64 tj] 83) := ⟨_, rfl⟩
      have hsz2 : wr.heap.size < W2.heap.size := by rw [hW2]; simp
      have HB2 : Hid (Below W0.heap.size W0 W2) := by show Below W0.heap.size W0 W2; rw [hW2]; exact HB.out.alloc HB.out.size _
      have B6 := hid (below_from B1.out HB2.out)
      have E0 : Hid (W2.cell? ⟨wr.heap.size, 0, none⟩ = some (.int .i64 pj)) := by show W2.cell? ⟨wr.heap.size, 0, none⟩ = some (.int .i64 pj); rw [hW2]; go_simp
      have E1 : Hid (W2.cell? ⟨wr.heap.size, 1, none⟩ = some (.int .i64 tj)) := by show W2.cell? ⟨wr.heap.size, 1, none⟩ = some (.int .i64 tj); rw [hW2]; go_simp
      cases g : wth pj 0 ((r.ps.length : Int) - 1) with
      | false =>
        have KK : Hid (∀ w1, Below w.heap.size w w1 → Calls Try.prog 42 #[.agg #[.int .i64 r.queue, .int .i64 r.fr, .int .i64 r.un, .int .i64 r.kind, .slice (some ⟨pb, po, none⟩) r.pn r.pc], .agg #[.int .i64 pj, .int .i64 tj]] w1 fun e w' => e = .returned (.bool true) ∧ Below w1.heap.size w1 w') := fun w1 h1 => by have := K3.out w1 h1 pj tj; rw [g] at this; exact this
        have HR := hid (meets_bad HN hlt (show biteOk r b j = false by rw [biteOk, isPiece, HPJ.out, g]; rfl))
        go_wp2_with fail
        rw [← hW2]
        clear hW2 d0 d1
        obtain ⟨c0, c1, c2, c3, c4⟩ := KC.out W2 HB2.out
        have e0 := E0.out
        have e1 := E1.out
        refine wp_region_held_drew (S := (fun X => Below w.heap.size w X ∧ X.cell? ⟨w.heap.size, 0, none⟩ = some (.int .i64 r.queue) ∧ X.cell? ⟨w.heap.size, 1, none⟩ = some (.int .i64 r.fr) ∧ X.cell? ⟨w.heap.size, 2, none⟩ = some (.int .i64 r.un) ∧ X.cell? ⟨w.heap.size, 3, none⟩ = some (.int .i64 r.kind) ∧ X.cell? ⟨w.heap.size, 4, none⟩ = some (.slice (some ⟨pb, po, none⟩) r.pn r.pc) ∧ X.cell? ⟨wr.heap.size, 0, none⟩ = some (.int .i64 pj) ∧ X.cell? ⟨wr.heap.size, 1, none⟩ = some (.int .i64 tj))) (by kernel_rfl) ⟨below_drewN B6.out 1, c0, c1, c2, c3, c4, e0, e1⟩ (fun hHeld => ?_)
        refine takeH (i := 0) (oi := { dst := some 23, op := Op.load 37 (Operand.tmp 2), type := 37, pos := "req.go:26", after := #[], guard := none }) (d := 23) (v := .agg #[.int .i64 r.queue, .int .i64 r.fr, .int .i64 r.un, .int .i64 r.kind, .slice (some ⟨pb, po, none⟩) r.pn r.pc]) rfl rfl (by kernel_rfl) (by kernel_rfl) (by kernel_rfl) (fun _ _ _ h => h) (by rfl) (fun w hSw => by (try dsimp only at hSw); go_simp) hHeld ?_
        simp only [List.setIfInBounds_toArray, List.set_cons_zero, List.set_cons_succ]
        refine takeH (i := 1) (oi := { dst := some 24, op := Op.load 83 (Operand.tmp 6), type := 83, pos := "req.go:26", after := #[], guard := none }) (d := 24) (v := .agg #[.int .i64 pj, .int .i64 tj]) rfl rfl (by kernel_rfl) (by kernel_rfl) (by kernel_rfl) (fun _ _ _ h => h) (by rfl) (fun w hSw => by (try dsimp only at hSw); go_simp) hHeld ?_
        simp only [List.setIfInBounds_toArray, List.set_cons_zero, List.set_cons_succ]
        refine wpAnyH_ready (rs := [2]) (by kernel_rfl) (by simp) (AllReadyH.cons (o := { dst := some 25, op := Op.call { callee := Callee.value (Operand.func 42), args := #[Operand.tmp 23, Operand.tmp 24], argTypes := #[37, 83] }, type := 4, pos := "req.go:26", after := #[{ on := 0, ground := Ground.data }, { on := 1, ground := Ground.data }], guard := none }) rfl (fun K hK => ?_) AllReadyH.nil)
        go_simp
        refine (KK.out _ (below_drewN B6.out 1)).mono ?_
        rintro e w' ⟨rfl, BB⟩
        go_simp
        refine hK.out _ _ ⟨below_from (below_drewN B6.out 1) BB, cell_later BB c0, cell_later BB c1, cell_later BB c2, cell_later BB c3, cell_later BB c4, cell_later BB e0, cell_later BB e1⟩ (fun hHeld => ?_)
        clear hK
        refine takeH (i := 3) (oi := { dst := some 26, op := Op.move (Operand.tmp 25), type := 4, pos := "req.go:26", after := #[{ on := 2, ground := Ground.data }, { on := 2, ground := Ground.chain }], guard := none }) (d := 26) (v := .bool true) rfl rfl (by kernel_rfl) (by kernel_rfl) (by kernel_rfl) (fun _ _ _ h => h) (by rfl) (fun w hSw => by (try dsimp only at hSw); go_simp) hHeld ?_
        simp only [List.setIfInBounds_toArray, List.set_cons_zero, List.set_cons_succ]
        refine skipH (i := 4) (oi := { dst := some 27, op := Op.fieldAddr 83 (Operand.tmp 6) 1, type := 0, pos := "req.go:26", after := #[{ on := 3, ground := Ground.guard }], guard := some (3, false) }) (d := 27) rfl rfl (by kernel_rfl) (by kernel_rfl) (by kernel_rfl) (fun _ _ _ h => h) (by rfl) hHeld ?_
        simp only [List.setIfInBounds_toArray, List.set_cons_zero, List.set_cons_succ]
        refine skipH (i := 5) (oi := { dst := some 28, op := Op.load 3 (Operand.tmp 27), type := 3, pos := "req.go:26", after := #[{ on := 4, ground := Ground.data }, { on := 3, ground := Ground.guard }], guard := some (3, false) }) (d := 28) rfl rfl (by kernel_rfl) (by kernel_rfl) (by kernel_rfl) (fun _ _ _ h => h) (by rfl) hHeld ?_
        simp only [List.setIfInBounds_toArray, List.set_cons_zero, List.set_cons_succ]
        refine skipH (i := 6) (oi := { dst := some 29, op := Op.fieldAddr 37 (Operand.tmp 2) 1, type := 0, pos := "req.go:26", after := #[{ on := 3, ground := Ground.guard }], guard := some (3, false) }) (d := 29) rfl rfl (by kernel_rfl) (by kernel_rfl) (by kernel_rfl) (fun _ _ _ h => h) (by rfl) hHeld ?_
        simp only [List.setIfInBounds_toArray, List.set_cons_zero, List.set_cons_succ]
        refine skipH (i := 7) (oi := { dst := some 30, op := Op.load 3 (Operand.tmp 29), type := 3, pos := "req.go:26", after := #[{ on := 6, ground := Ground.data }, { on := 3, ground := Ground.guard }], guard := some (3, false) }) (d := 30) rfl rfl (by kernel_rfl) (by kernel_rfl) (by kernel_rfl) (fun _ _ _ h => h) (by rfl) hHeld ?_
        simp only [List.setIfInBounds_toArray, List.set_cons_zero, List.set_cons_succ]
        refine skipH (i := 8) (oi := { dst := some 31, op := Op.binOp BinOp.lss 3 (Operand.tmp 28) (Operand.tmp 30) 3, type := 4, pos := "req.go:26", after := #[{ on := 5, ground := Ground.data }, { on := 7, ground := Ground.data }, { on := 3, ground := Ground.guard }], guard := some (3, false) }) (d := 31) rfl rfl (by kernel_rfl) (by kernel_rfl) (by kernel_rfl) (fun _ _ _ h => h) (by rfl) hHeld ?_
        simp only [List.setIfInBounds_toArray, List.set_cons_zero, List.set_cons_succ]
        refine takeH (i := 9) (oi := { dst := some 32, op := Op.pick (Operand.tmp 26) (Operand.const (Value.bool true)) (Operand.tmp 31), type := 4, pos := "req.go:26", after := #[{ on := 3, ground := Ground.data }, { on := 8, ground := Ground.data }], guard := none }) (d := 32) (v := .bool true) rfl rfl (by kernel_rfl) (by kernel_rfl) (by kernel_rfl) (fun _ _ _ h => h) (by rfl) (fun w hSw => by (try dsimp only at hSw); go_simp) hHeld ?_
        simp only [List.setIfInBounds_toArray, List.set_cons_zero, List.set_cons_succ]
        refine takeH (i := 10) (oi := { dst := some 33, op := Op.move (Operand.tmp 32), type := 4, pos := "req.go:26", after := #[{ on := 9, ground := Ground.data }, { on := 3, ground := Ground.chain }], guard := none }) (d := 33) (v := .bool true) rfl rfl (by kernel_rfl) (by kernel_rfl) (by kernel_rfl) (fun _ _ _ h => h) (by rfl) (fun w hSw => by (try dsimp only at hSw); go_simp) hHeld ?_
        simp only [List.setIfInBounds_toArray, List.set_cons_zero, List.set_cons_succ]
        refine skipH (i := 11) (oi := { dst := some 34, op := Op.fieldAddr 83 (Operand.tmp 6) 1, type := 0, pos := "req.go:26", after := #[{ on := 10, ground := Ground.guard }], guard := some (10, false) }) (d := 34) rfl rfl (by kernel_rfl) (by kernel_rfl) (by kernel_rfl) (fun _ _ _ h => h) (by rfl) hHeld ?_
        simp only [List.setIfInBounds_toArray, List.set_cons_zero, List.set_cons_succ]
        refine skipH (i := 12) (oi := { dst := some 35, op := Op.load 3 (Operand.tmp 34), type := 3, pos := "req.go:26", after := #[{ on := 11, ground := Ground.data }, { on := 10, ground := Ground.guard }], guard := some (10, false) }) (d := 35) rfl rfl (by kernel_rfl) (by kernel_rfl) (by kernel_rfl) (fun _ _ _ h => h) (by rfl) hHeld ?_
        simp only [List.setIfInBounds_toArray, List.set_cons_zero, List.set_cons_succ]
        refine skipH (i := 13) (oi := { dst := some 36, op := Op.fieldAddr 37 (Operand.tmp 2) 2, type := 0, pos := "req.go:26", after := #[{ on := 10, ground := Ground.guard }], guard := some (10, false) }) (d := 36) rfl rfl (by kernel_rfl) (by kernel_rfl) (by kernel_rfl) (fun _ _ _ h => h) (by rfl) hHeld ?_
        simp only [List.setIfInBounds_toArray, List.set_cons_zero, List.set_cons_succ]
        refine skipH (i := 14) (oi := { dst := some 37, op := Op.load 3 (Operand.tmp 36), type := 3, pos := "req.go:26", after := #[{ on := 13, ground := Ground.data }, { on := 10, ground := Ground.guard }], guard := some (10, false) }) (d := 37) rfl rfl (by kernel_rfl) (by kernel_rfl) (by kernel_rfl) (fun _ _ _ h => h) (by rfl) hHeld ?_
        simp only [List.setIfInBounds_toArray, List.set_cons_zero, List.set_cons_succ]
        refine skipH (i := 15) (oi := { dst := some 38, op := Op.fieldAddr 37 (Operand.tmp 2) 4, type := 0, pos := "req.go:26", after := #[{ on := 10, ground := Ground.guard }], guard := some (10, false) }) (d := 38) rfl rfl (by kernel_rfl) (by kernel_rfl) (by kernel_rfl) (fun _ _ _ h => h) (by rfl) hHeld ?_
        simp only [List.setIfInBounds_toArray, List.set_cons_zero, List.set_cons_succ]
        refine skipH (i := 16) (oi := { dst := some 39, op := Op.load 35 (Operand.tmp 38), type := 35, pos := "req.go:26", after := #[{ on := 15, ground := Ground.data }, { on := 10, ground := Ground.guard }], guard := some (10, false) }) (d := 39) rfl rfl (by kernel_rfl) (by kernel_rfl) (by kernel_rfl) (fun _ _ _ h => h) (by rfl) hHeld ?_
        simp only [List.setIfInBounds_toArray, List.set_cons_zero, List.set_cons_succ]
        refine skipH (i := 17) (oi := { dst := some 40, op := Op.fieldAddr 83 (Operand.tmp 6) 0, type := 0, pos := "req.go:26", after := #[{ on := 10, ground := Ground.guard }], guard := some (10, false) }) (d := 40) rfl rfl (by kernel_rfl) (by kernel_rfl) (by kernel_rfl) (fun _ _ _ h => h) (by rfl) hHeld ?_
        simp only [List.setIfInBounds_toArray, List.set_cons_zero, List.set_cons_succ]
        refine skipH (i := 18) (oi := { dst := some 41, op := Op.load 3 (Operand.tmp 40), type := 3, pos := "req.go:26", after := #[{ on := 17, ground := Ground.data }, { on := 10, ground := Ground.guard }], guard := some (10, false) }) (d := 41) rfl rfl (by kernel_rfl) (by kernel_rfl) (by kernel_rfl) (fun _ _ _ h => h) (by rfl) hHeld ?_
        simp only [List.setIfInBounds_toArray, List.set_cons_zero, List.set_cons_succ]
        refine skipH (i := 19) (oi := { dst := some 42, op := Op.indexAddr 35 (Operand.tmp 39) (Operand.tmp 41), type := 0, pos := "req.go:26", after := #[{ on := 16, ground := Ground.data }, { on := 18, ground := Ground.data }, { on := 10, ground := Ground.guard }], guard := some (10, false) }) (d := 42) rfl rfl (by kernel_rfl) (by kernel_rfl) (by kernel_rfl) (fun _ _ _ h => h) (by rfl) hHeld ?_
        simp only [List.setIfInBounds_toArray, List.set_cons_zero, List.set_cons_succ]
        refine skipH (i := 20) (oi := { dst := some 43, op := Op.fieldAddr 90 (Operand.tmp 42) 0, type := 0, pos := "req.go:26", after := #[{ on := 19, ground := Ground.data }, { on := 10, ground := Ground.guard }], guard := some (10, false) }) (d := 43) rfl rfl (by kernel_rfl) (by kernel_rfl) (by kernel_rfl) (fun _ _ _ h => h) (by rfl) hHeld ?_
        simp only [List.setIfInBounds_toArray, List.set_cons_zero, List.set_cons_succ]
        refine skipH (i := 21) (oi := { dst := some 44, op := Op.load 3 (Operand.tmp 43), type := 3, pos := "req.go:26", after := #[{ on := 20, ground := Ground.data }, { on := 10, ground := Ground.guard }], guard := some (10, false) }) (d := 44) rfl rfl (by kernel_rfl) (by kernel_rfl) (by kernel_rfl) (fun _ _ _ h => h) (by rfl) hHeld ?_
        simp only [List.setIfInBounds_toArray, List.set_cons_zero, List.set_cons_succ]
        refine skipH (i := 22) (oi := { dst := some 45, op := Op.binOp BinOp.sub 3 (Operand.tmp 37) (Operand.tmp 44) 3, type := 3, pos := "req.go:26", after := #[{ on := 14, ground := Ground.data }, { on := 21, ground := Ground.data }, { on := 10, ground := Ground.guard }], guard := some (10, false) }) (d := 45) rfl rfl (by kernel_rfl) (by kernel_rfl) (by kernel_rfl) (fun _ _ _ h => h) (by rfl) hHeld ?_
        simp only [List.setIfInBounds_toArray, List.set_cons_zero, List.set_cons_succ]
        refine skipH (i := 23) (oi := { dst := some 46, op := Op.binOp BinOp.gtr 3 (Operand.tmp 35) (Operand.tmp 45) 3, type := 4, pos := "req.go:26", after := #[{ on := 12, ground := Ground.data }, { on := 22, ground := Ground.data }, { on := 10, ground := Ground.guard }], guard := some (10, false) }) (d := 46) rfl rfl (by kernel_rfl) (by kernel_rfl) (by kernel_rfl) (fun _ _ _ h => h) (by rfl) hHeld ?_
        simp only [List.setIfInBounds_toArray, List.set_cons_zero, List.set_cons_succ]
        refine takeH (i := 24) (oi := { dst := some 47, op := Op.pick (Operand.tmp 33) (Operand.const (Value.bool true)) (Operand.tmp 46), type := 4, pos := "req.go:26", after := #[{ on := 10, ground := Ground.data }, { on := 23, ground := Ground.data }], guard := none }) (d := 47) (v := .bool true) rfl rfl (by kernel_rfl) (by kernel_rfl) (by kernel_rfl) (fun _ _ _ h => h) (by rfl) (fun w hSw => by (try dsimp only at hSw); go_simp) hHeld ?_
        simp only [List.setIfInBounds_toArray, List.set_cons_zero, List.set_cons_succ]
        refine wpAnyH_done (by kernel_rfl) ?_ _
        have B9 := hid (below_from HB2.out (below_drew1 BB))
        clear hHeld BB c0 c1 c2 c3 c4 e0 e1
        go_wp2
        go_ret
        exact ⟨ret_bool HR.out.symm, below_from B1.out B9.out⟩
      | true =>
        have hpw := of_decide_eq_true g
        obtain ⟨P, rfl⟩ := Int.eq_ofNat_of_zero_le hpw.1
        have hP : P < r.pn := by have := HPN.out; omega
        have hP' : (P : Int) < r.pn := by omega
        obtain ⟨L, hL⟩ : ∃ L, rAt r.ps P = L := ⟨_, rfl⟩
        have hLb : 1 ≤ L ∧ L ≤ 24 := by have := piece_at HC0.out (k := P) (by have := HPN.out; omega); omega
        have q0 : W2.cell? ⟨pb, po + P * 2, none⟩ = some (.int .i64 L) := by rw [← hL]; exact cell_later HB2.out (HPB.out P hP)
        have HLE : Hid (lenOf r b j = L) := by show lenOf r b j = L; rw [lenOf, HPJ.out, Int.toNat_natCast, hL]
        have hwr : IntKind.i64.wrap (r.un - L) = r.un - L := by have := HS.out; rw [IntKind.wrap_i64]; omega
        have KK : Hid (∀ w1, Below w.heap.size w w1 → Calls Try.prog 42 #[.agg #[.int .i64 r.queue, .int .i64 r.fr, .int .i64 r.un, .int .i64 r.kind, .slice (some ⟨pb, po, none⟩) r.pn r.pc], .agg #[.int .i64 P, .int .i64 tj]] w1 fun e w' => e = .returned (.bool false) ∧ Below w1.heap.size w1 w') := fun w1 h1 => by have := K3.out w1 h1 P tj; rw [g] at this; exact this
        have Q0 := hid q0
        have HLB := hid hLb
        clear hL hpw q0 hLb
        by_cases g1 : tj < r.fr
        · have HR := hid (meets_bad HN hlt (show biteOk r b j = false by
            have : inTime r b j = false := decide_eq_false (by rw [HTJ.out]; omega)
            rw [biteOk, this]; simp))
          go_wp2_with fail
          rw [← hW2]
          clear hW2 d0 d1
          obtain ⟨c0, c1, c2, c3, c4⟩ := KC.out W2 HB2.out
          have e0 := E0.out
          have e1 := E1.out
          have q0 := Q0.out
          refine wp_region_held_drew (S := (fun X => Below w.heap.size w X ∧ X.cell? ⟨w.heap.size, 0, none⟩ = some (.int .i64 r.queue) ∧ X.cell? ⟨w.heap.size, 1, none⟩ = some (.int .i64 r.fr) ∧ X.cell? ⟨w.heap.size, 2, none⟩ = some (.int .i64 r.un) ∧ X.cell? ⟨w.heap.size, 3, none⟩ = some (.int .i64 r.kind) ∧ X.cell? ⟨w.heap.size, 4, none⟩ = some (.slice (some ⟨pb, po, none⟩) r.pn r.pc) ∧ X.cell? ⟨wr.heap.size, 0, none⟩ = some (.int .i64 P) ∧ X.cell? ⟨wr.heap.size, 1, none⟩ = some (.int .i64 tj))) (by kernel_rfl) ⟨below_drewN B6.out 1, c0, c1, c2, c3, c4, e0, e1⟩ (fun hHeld => ?_)
          refine takeH (i := 0) (oi := { dst := some 23, op := Op.load 37 (Operand.tmp 2), type := 37, pos := "req.go:26", after := #[], guard := none }) (d := 23) (v := .agg #[.int .i64 r.queue, .int .i64 r.fr, .int .i64 r.un, .int .i64 r.kind, .slice (some ⟨pb, po, none⟩) r.pn r.pc]) rfl rfl (by kernel_rfl) (by kernel_rfl) (by kernel_rfl) (fun _ _ _ h => h) (by rfl) (fun w hSw => by (try dsimp only at hSw); go_simp) hHeld ?_
          simp only [List.setIfInBounds_toArray, List.set_cons_zero, List.set_cons_succ]
          refine takeH (i := 1) (oi := { dst := some 24, op := Op.load 83 (Operand.tmp 6), type := 83, pos := "req.go:26", after := #[], guard := none }) (d := 24) (v := .agg #[.int .i64 P, .int .i64 tj]) rfl rfl (by kernel_rfl) (by kernel_rfl) (by kernel_rfl) (fun _ _ _ h => h) (by rfl) (fun w hSw => by (try dsimp only at hSw); go_simp) hHeld ?_
          simp only [List.setIfInBounds_toArray, List.set_cons_zero, List.set_cons_succ]
          refine wpAnyH_ready (rs := [2]) (by kernel_rfl) (by simp) (AllReadyH.cons (o := { dst := some 25, op := Op.call { callee := Callee.value (Operand.func 42), args := #[Operand.tmp 23, Operand.tmp 24], argTypes := #[37, 83] }, type := 4, pos := "req.go:26", after := #[{ on := 0, ground := Ground.data }, { on := 1, ground := Ground.data }], guard := none }) rfl (fun K hK => ?_) AllReadyH.nil)
          go_simp
          refine (KK.out _ (below_drewN B6.out 1)).mono ?_
          rintro e w' ⟨rfl, BB⟩
          go_simp
          refine hK.out _ _ ⟨below_from (below_drewN B6.out 1) BB, cell_later BB c0, cell_later BB c1, cell_later BB c2, cell_later BB c3, cell_later BB c4, cell_later BB e0, cell_later BB e1⟩ (fun hHeld => ?_)
          clear hK
          refine takeH (i := 3) (oi := { dst := some 26, op := Op.move (Operand.tmp 25), type := 4, pos := "req.go:26", after := #[{ on := 2, ground := Ground.data }, { on := 2, ground := Ground.chain }], guard := none }) (d := 26) (v := .bool false) rfl rfl (by kernel_rfl) (by kernel_rfl) (by kernel_rfl) (fun _ _ _ h => h) (by rfl) (fun w hSw => by (try dsimp only at hSw); go_simp) hHeld ?_
          simp only [List.setIfInBounds_toArray, List.set_cons_zero, List.set_cons_succ]
          refine takeH (i := 4) (oi := { dst := some 27, op := Op.fieldAddr 83 (Operand.tmp 6) 1, type := 0, pos := "req.go:26", after := #[{ on := 3, ground := Ground.guard }], guard := some (3, false) }) (d := 27) (v := .pointer (some ⟨wr.heap.size, 1, none⟩)) rfl rfl (by kernel_rfl) (by kernel_rfl) (by kernel_rfl) (fun _ _ _ h => h) (by rfl) (fun w hSw => by (try dsimp only at hSw); go_simp) hHeld ?_
          simp only [List.setIfInBounds_toArray, List.set_cons_zero, List.set_cons_succ]
          refine takeH (i := 5) (oi := { dst := some 28, op := Op.load 3 (Operand.tmp 27), type := 3, pos := "req.go:26", after := #[{ on := 4, ground := Ground.data }, { on := 3, ground := Ground.guard }], guard := some (3, false) }) (d := 28) (v := .int .i64 tj) rfl rfl (by kernel_rfl) (by kernel_rfl) (by kernel_rfl) (fun _ _ _ h => h) (by rfl) (fun w hSw => by (try dsimp only at hSw); go_simp) hHeld ?_
          simp only [List.setIfInBounds_toArray, List.set_cons_zero, List.set_cons_succ]
          refine takeH (i := 6) (oi := { dst := some 29, op := Op.fieldAddr 37 (Operand.tmp 2) 1, type := 0, pos := "req.go:26", after := #[{ on := 3, ground := Ground.guard }], guard := some (3, false) }) (d := 29) (v := .pointer (some ⟨w.heap.size, 1, none⟩)) rfl rfl (by kernel_rfl) (by kernel_rfl) (by kernel_rfl) (fun _ _ _ h => h) (by rfl) (fun w hSw => by (try dsimp only at hSw); go_simp) hHeld ?_
          simp only [List.setIfInBounds_toArray, List.set_cons_zero, List.set_cons_succ]
          refine takeH (i := 7) (oi := { dst := some 30, op := Op.load 3 (Operand.tmp 29), type := 3, pos := "req.go:26", after := #[{ on := 6, ground := Ground.data }, { on := 3, ground := Ground.guard }], guard := some (3, false) }) (d := 30) (v := .int .i64 r.fr) rfl rfl (by kernel_rfl) (by kernel_rfl) (by kernel_rfl) (fun _ _ _ h => h) (by rfl) (fun w hSw => by (try dsimp only at hSw); go_simp) hHeld ?_
          simp only [List.setIfInBounds_toArray, List.set_cons_zero, List.set_cons_succ]
          refine takeH (i := 8) (oi := { dst := some 31, op := Op.binOp BinOp.lss 3 (Operand.tmp 28) (Operand.tmp 30) 3, type := 4, pos := "req.go:26", after := #[{ on := 5, ground := Ground.data }, { on := 7, ground := Ground.data }, { on := 3, ground := Ground.guard }], guard := some (3, false) }) (d := 31) (v := .bool true) rfl rfl (by kernel_rfl) (by kernel_rfl) (by kernel_rfl) (fun _ _ _ h => h) (by rfl) (fun w hSw => by (try dsimp only at hSw); go_simp) hHeld ?_
          simp only [List.setIfInBounds_toArray, List.set_cons_zero, List.set_cons_succ]
          refine takeH (i := 9) (oi := { dst := some 32, op := Op.pick (Operand.tmp 26) (Operand.const (Value.bool true)) (Operand.tmp 31), type := 4, pos := "req.go:26", after := #[{ on := 3, ground := Ground.data }, { on := 8, ground := Ground.data }], guard := none }) (d := 32) (v := .bool true) rfl rfl (by kernel_rfl) (by kernel_rfl) (by kernel_rfl) (fun _ _ _ h => h) (by rfl) (fun w hSw => by (try dsimp only at hSw); go_simp) hHeld ?_
          simp only [List.setIfInBounds_toArray, List.set_cons_zero, List.set_cons_succ]
          refine takeH (i := 10) (oi := { dst := some 33, op := Op.move (Operand.tmp 32), type := 4, pos := "req.go:26", after := #[{ on := 9, ground := Ground.data }, { on := 3, ground := Ground.chain }], guard := none }) (d := 33) (v := .bool true) rfl rfl (by kernel_rfl) (by kernel_rfl) (by kernel_rfl) (fun _ _ _ h => h) (by rfl) (fun w hSw => by (try dsimp only at hSw); go_simp) hHeld ?_
          simp only [List.setIfInBounds_toArray, List.set_cons_zero, List.set_cons_succ]
          refine skipH (i := 11) (oi := { dst := some 34, op := Op.fieldAddr 83 (Operand.tmp 6) 1, type := 0, pos := "req.go:26", after := #[{ on := 10, ground := Ground.guard }], guard := some (10, false) }) (d := 34) rfl rfl (by kernel_rfl) (by kernel_rfl) (by kernel_rfl) (fun _ _ _ h => h) (by rfl) hHeld ?_
          simp only [List.setIfInBounds_toArray, List.set_cons_zero, List.set_cons_succ]
          refine skipH (i := 12) (oi := { dst := some 35, op := Op.load 3 (Operand.tmp 34), type := 3, pos := "req.go:26", after := #[{ on := 11, ground := Ground.data }, { on := 10, ground := Ground.guard }], guard := some (10, false) }) (d := 35) rfl rfl (by kernel_rfl) (by kernel_rfl) (by kernel_rfl) (fun _ _ _ h => h) (by rfl) hHeld ?_
          simp only [List.setIfInBounds_toArray, List.set_cons_zero, List.set_cons_succ]
          refine skipH (i := 13) (oi := { dst := some 36, op := Op.fieldAddr 37 (Operand.tmp 2) 2, type := 0, pos := "req.go:26", after := #[{ on := 10, ground := Ground.guard }], guard := some (10, false) }) (d := 36) rfl rfl (by kernel_rfl) (by kernel_rfl) (by kernel_rfl) (fun _ _ _ h => h) (by rfl) hHeld ?_
          simp only [List.setIfInBounds_toArray, List.set_cons_zero, List.set_cons_succ]
          refine skipH (i := 14) (oi := { dst := some 37, op := Op.load 3 (Operand.tmp 36), type := 3, pos := "req.go:26", after := #[{ on := 13, ground := Ground.data }, { on := 10, ground := Ground.guard }], guard := some (10, false) }) (d := 37) rfl rfl (by kernel_rfl) (by kernel_rfl) (by kernel_rfl) (fun _ _ _ h => h) (by rfl) hHeld ?_
          simp only [List.setIfInBounds_toArray, List.set_cons_zero, List.set_cons_succ]
          refine skipH (i := 15) (oi := { dst := some 38, op := Op.fieldAddr 37 (Operand.tmp 2) 4, type := 0, pos := "req.go:26", after := #[{ on := 10, ground := Ground.guard }], guard := some (10, false) }) (d := 38) rfl rfl (by kernel_rfl) (by kernel_rfl) (by kernel_rfl) (fun _ _ _ h => h) (by rfl) hHeld ?_
          simp only [List.setIfInBounds_toArray, List.set_cons_zero, List.set_cons_succ]
          refine skipH (i := 16) (oi := { dst := some 39, op := Op.load 35 (Operand.tmp 38), type := 35, pos := "req.go:26", after := #[{ on := 15, ground := Ground.data }, { on := 10, ground := Ground.guard }], guard := some (10, false) }) (d := 39) rfl rfl (by kernel_rfl) (by kernel_rfl) (by kernel_rfl) (fun _ _ _ h => h) (by rfl) hHeld ?_
          simp only [List.setIfInBounds_toArray, List.set_cons_zero, List.set_cons_succ]
          refine skipH (i := 17) (oi := { dst := some 40, op := Op.fieldAddr 83 (Operand.tmp 6) 0, type := 0, pos := "req.go:26", after := #[{ on := 10, ground := Ground.guard }], guard := some (10, false) }) (d := 40) rfl rfl (by kernel_rfl) (by kernel_rfl) (by kernel_rfl) (fun _ _ _ h => h) (by rfl) hHeld ?_
          simp only [List.setIfInBounds_toArray, List.set_cons_zero, List.set_cons_succ]
          refine skipH (i := 18) (oi := { dst := some 41, op := Op.load 3 (Operand.tmp 40), type := 3, pos := "req.go:26", after := #[{ on := 17, ground := Ground.data }, { on := 10, ground := Ground.guard }], guard := some (10, false) }) (d := 41) rfl rfl (by kernel_rfl) (by kernel_rfl) (by kernel_rfl) (fun _ _ _ h => h) (by rfl) hHeld ?_
          simp only [List.setIfInBounds_toArray, List.set_cons_zero, List.set_cons_succ]
          refine skipH (i := 19) (oi := { dst := some 42, op := Op.indexAddr 35 (Operand.tmp 39) (Operand.tmp 41), type := 0, pos := "req.go:26", after := #[{ on := 16, ground := Ground.data }, { on := 18, ground := Ground.data }, { on := 10, ground := Ground.guard }], guard := some (10, false) }) (d := 42) rfl rfl (by kernel_rfl) (by kernel_rfl) (by kernel_rfl) (fun _ _ _ h => h) (by rfl) hHeld ?_
          simp only [List.setIfInBounds_toArray, List.set_cons_zero, List.set_cons_succ]
          refine skipH (i := 20) (oi := { dst := some 43, op := Op.fieldAddr 90 (Operand.tmp 42) 0, type := 0, pos := "req.go:26", after := #[{ on := 19, ground := Ground.data }, { on := 10, ground := Ground.guard }], guard := some (10, false) }) (d := 43) rfl rfl (by kernel_rfl) (by kernel_rfl) (by kernel_rfl) (fun _ _ _ h => h) (by rfl) hHeld ?_
          simp only [List.setIfInBounds_toArray, List.set_cons_zero, List.set_cons_succ]
          refine skipH (i := 21) (oi := { dst := some 44, op := Op.load 3 (Operand.tmp 43), type := 3, pos := "req.go:26", after := #[{ on := 20, ground := Ground.data }, { on := 10, ground := Ground.guard }], guard := some (10, false) }) (d := 44) rfl rfl (by kernel_rfl) (by kernel_rfl) (by kernel_rfl) (fun _ _ _ h => h) (by rfl) hHeld ?_
          simp only [List.setIfInBounds_toArray, List.set_cons_zero, List.set_cons_succ]
          refine skipH (i := 22) (oi := { dst := some 45, op := Op.binOp BinOp.sub 3 (Operand.tmp 37) (Operand.tmp 44) 3, type := 3, pos := "req.go:26", after := #[{ on := 14, ground := Ground.data }, { on := 21, ground := Ground.data }, { on := 10, ground := Ground.guard }], guard := some (10, false) }) (d := 45) rfl rfl (by kernel_rfl) (by kernel_rfl) (by kernel_rfl) (fun _ _ _ h => h) (by rfl) hHeld ?_
          simp only [List.setIfInBounds_toArray, List.set_cons_zero, List.set_cons_succ]
          refine skipH (i := 23) (oi := { dst := some 46, op := Op.binOp BinOp.gtr 3 (Operand.tmp 35) (Operand.tmp 45) 3, type := 4, pos := "req.go:26", after := #[{ on := 12, ground := Ground.data }, { on := 22, ground := Ground.data }, { on := 10, ground := Ground.guard }], guard := some (10, false) }) (d := 46) rfl rfl (by kernel_rfl) (by kernel_rfl) (by kernel_rfl) (fun _ _ _ h => h) (by rfl) hHeld ?_
          simp only [List.setIfInBounds_toArray, List.set_cons_zero, List.set_cons_succ]
          refine takeH (i := 24) (oi := { dst := some 47, op := Op.pick (Operand.tmp 33) (Operand.const (Value.bool true)) (Operand.tmp 46), type := 4, pos := "req.go:26", after := #[{ on := 10, ground := Ground.data }, { on := 23, ground := Ground.data }], guard := none }) (d := 47) (v := .bool true) rfl rfl (by kernel_rfl) (by kernel_rfl) (by kernel_rfl) (fun _ _ _ h => h) (by rfl) (fun w hSw => by (try dsimp only at hSw); go_simp) hHeld ?_
          simp only [List.setIfInBounds_toArray, List.set_cons_zero, List.set_cons_succ]
          refine wpAnyH_done (by kernel_rfl) ?_ _
          have B9 := hid (below_from HB2.out (below_drew1 BB))
          clear hHeld BB c0 c1 c2 c3 c4 e0 e1
          go_wp2
          go_ret
          exact ⟨ret_bool HR.out.symm, below_from B1.out B9.out⟩
        have g1' : decide (tj < r.fr) = false := decide_eq_false g1
        by_cases g2 : r.un - L < tj
        · have g2' : decide (r.un - L < tj) = true := decide_eq_true g2
          have HR := hid (meets_bad HN hlt (show biteOk r b j = false by
            have : inTime r b j = false := decide_eq_false (by rw [HTJ.out, HLE.out]; omega)
            rw [biteOk, this]; simp))
          go_wp2_with fail
          rw [← hW2]
          clear hW2 d0 d1
          obtain ⟨c0, c1, c2, c3, c4⟩ := KC.out W2 HB2.out
          have e0 := E0.out
          have e1 := E1.out
          have q0 := Q0.out
          go_region_held3 (fun X => Below w.heap.size w X ∧ X.cell? ⟨w.heap.size, 0, none⟩ = some (.int .i64 r.queue) ∧ X.cell? ⟨w.heap.size, 1, none⟩ = some (.int .i64 r.fr) ∧ X.cell? ⟨w.heap.size, 2, none⟩ = some (.int .i64 r.un) ∧ X.cell? ⟨w.heap.size, 3, none⟩ = some (.int .i64 r.kind) ∧ X.cell? ⟨w.heap.size, 4, none⟩ = some (.slice (some ⟨pb, po, none⟩) r.pn r.pc) ∧ X.cell? ⟨wr.heap.size, 0, none⟩ = some (.int .i64 P) ∧ X.cell? ⟨wr.heap.size, 1, none⟩ = some (.int .i64 tj) ∧ X.cell? ⟨pb, po + P * 2, none⟩ = some (.int .i64 L))
            (first | exact ⟨below_drewN B6.out 1, c0, c1, c2, c3, c4, e0, e1, q0⟩ | exact ⟨below_from (below_drewN B6.out 1) BB, cell_later BB c0, cell_later BB c1, cell_later BB c2, cell_later BB c3, cell_later BB c4, cell_later BB e0, cell_later BB e1, cell_later BB q0⟩)
            ((go_at_call 42; refine (KK.out _ (below_drewN B6.out 1)).mono ?_; rintro e w' ⟨rfl, BB⟩))
          rename_i hH
          have B9 := hid (below_from HB2.out (below_drew1 BB))
          clear hH BB c0 c1 c2 c3 c4 e0 e1 q0
          go_wp2
          go_ret
          exact ⟨ret_bool HR.out.symm, below_from B1.out B9.out⟩
        · have g2' : decide (r.un - L < tj) = false := decide_eq_false g2
          have HOK : Hid (isPiece r b j = true ∧ inTime r b j = true) := ⟨by rw [isPiece, HPJ.out]; exact g, decide_eq_true (by rw [HTJ.out, HLE.out]; omega)⟩
          go_wp2_with fail
          rw [← hW2]
          clear hW2 d0 d1
          obtain ⟨c0, c1, c2, c3, c4⟩ := KC.out W2 HB2.out
          have e0 := E0.out
          have e1 := E1.out
          have q0 := Q0.out
          go_region_held3 (fun X => Below w.heap.size w X ∧ X.cell? ⟨w.heap.size, 0, none⟩ = some (.int .i64 r.queue) ∧ X.cell? ⟨w.heap.size, 1, none⟩ = some (.int .i64 r.fr) ∧ X.cell? ⟨w.heap.size, 2, none⟩ = some (.int .i64 r.un) ∧ X.cell? ⟨w.heap.size, 3, none⟩ = some (.int .i64 r.kind) ∧ X.cell? ⟨w.heap.size, 4, none⟩ = some (.slice (some ⟨pb, po, none⟩) r.pn r.pc) ∧ X.cell? ⟨wr.heap.size, 0, none⟩ = some (.int .i64 P) ∧ X.cell? ⟨wr.heap.size, 1, none⟩ = some (.int .i64 tj) ∧ X.cell? ⟨pb, po + P * 2, none⟩ = some (.int .i64 L))
            (first | exact ⟨below_drewN B6.out 1, c0, c1, c2, c3, c4, e0, e1, q0⟩ | exact ⟨below_from (below_drewN B6.out 1) BB, cell_later BB c0, cell_later BB c1, cell_later BB c2, cell_later BB c3, cell_later BB c4, cell_later BB e0, cell_later BB e1, cell_later BB q0⟩)
            ((go_at_call 42; refine (KK.out _ (below_drewN B6.out 1)).mono ?_; rintro e w' ⟨rfl, BB⟩))
          rename_i hH
          have B9 := hid (below_from HB2.out (below_drew1 BB))
          have E2 := hid (cell_later BB e0)
          have E3 := hid (cell_later BB e1)
          clear hH BB c0 c1 c2 c3 c4 e0 e1 q0
          rename World => W3
          have B10 := hid (below_from B1.out B9.out)
          by_cases hj0 : j = 0
          · have HA1 : Hid (allN (biteOk r b) (j + 1) = true) := by
              show allN (biteOk r b) (j + 1) = true
              rw [allN, HA.out, biteOk, HOK.out.1, HOK.out.2, hj0]; rfl
            have hj0' : decide ((0 : Int) < (j : Int)) = false := decide_eq_false (by omega)
            go_wp2_with fail
            go_quiet (fail)
            go_wp2
            go_roundw
            case rel => exact ⟨j + 1, by go_num, by omega, HA1.out, below_drewN B9.out _⟩
            case measure => simp [intOf]; omega
          · obtain ⟨k, rfl⟩ : ∃ k, j = k + 1 := ⟨j - 1, by omega⟩
            have hkn : (k : Int) < bn := by omega
            have hj0' : decide ((0 : Int) < ((k + 1 : Nat) : Int)) = true := decide_eq_true (by omega)
            have hwk : IntKind.i64.wrap (k : Int) = k := by rw [IntKind.wrap_i64]; omega
            obtain ⟨pk, hpk⟩ : ∃ x, rAt b k = x := ⟨_, rfl⟩
            obtain ⟨tk, htk⟩ : ∃ x, rN b k = x := ⟨_, rfl⟩
            have F0 : Hid (W3.cell? ⟨bb, bo + k * 2, none⟩ = some (.int .i64 pk)) := by rw [← hpk]; exact cell_later B9.out (HCB.out k (by omega)).1
            have F1 : Hid (W3.cell? ⟨bb, bo + k * 2 + 1, none⟩ = some (.int .i64 tk)) := by rw [← htk]; exact cell_later B9.out (HCB.out k (by omega)).2
            have HPK : Hid ((0 ≤ pk ∧ pk < r.ps.length) ∧ (0 ≤ rAt r.ps pk.toNat ∧ rAt r.ps pk.toNat ≤ 24) ∧ (0 ≤ tk ∧ tk ≤ 48)) := by
              have ha := biteOk_at (allN_iff.1 HA.out k (by omega))
              have h1 := isPiece_at ha.1
              have h2 := lenOf_at HC0.out ha.1
              have h3 := inTime_at ha.2.1
              have h4 := HS.out
              rw [hpk] at h1
              rw [htk] at h3
              have h5 : lenOf r b k = rAt r.ps pk.toNat := by rw [lenOf, hpk]
              rw [h5] at h2 h3
              exact ⟨h1, ⟨by omega, by omega⟩, by omega, by omega⟩
            have HFB : Hid (followsB r b k (k + 1) = followsV r pk tk P tj) := by
              show followsB r b k (k + 1) = followsV r pk tk P tj
              rw [← hpk, ← htk, ← HPJ.out, ← HTJ.out]; rfl
            clear hpk htk
            cases gf : followsV r pk tk P tj with
            | false =>
              have HR := hid (meets_bad HN hlt (show biteOk r b (k + 1) = false by
                rw [biteOk, Nat.add_sub_cancel, HFB.out, gf]; simp))
              have KF : Hid (∀ w1, Below w.heap.size w w1 → Calls Try.prog 47 #[.agg #[.int .i64 r.queue, .int .i64 r.fr, .int .i64 r.un, .int .i64 r.kind, .slice (some ⟨pb, po, none⟩) r.pn r.pc], .agg #[.int .i64 pk, .int .i64 tk], .agg #[.int .i64 P, .int .i64 tj]] w1 fun e w' => e = .returned (.bool false) ∧ Below w1.heap.size w1 w') := fun w1 h1 => by have := K4.out w1 h1 pk tk P tj HPK.out.1 HPK.out.2.1 HPK.out.2.2; rw [gf] at this; exact this
              go_wp2_with fail
              obtain ⟨c0, c1, c2, c3, c4⟩ := KC.out W3 B9.out
              have e0 := E2.out
              have e1 := E3.out
              have f0 := F0.out
              have f1 := F1.out
              go_region_held3 (fun X => Below w.heap.size w X ∧ X.cell? ⟨w.heap.size, 0, none⟩ = some (.int .i64 r.queue) ∧ X.cell? ⟨w.heap.size, 1, none⟩ = some (.int .i64 r.fr) ∧ X.cell? ⟨w.heap.size, 2, none⟩ = some (.int .i64 r.un) ∧ X.cell? ⟨w.heap.size, 3, none⟩ = some (.int .i64 r.kind) ∧ X.cell? ⟨w.heap.size, 4, none⟩ = some (.slice (some ⟨pb, po, none⟩) r.pn r.pc) ∧ X.cell? ⟨wr.heap.size, 0, none⟩ = some (.int .i64 P) ∧ X.cell? ⟨wr.heap.size, 1, none⟩ = some (.int .i64 tj) ∧ X.cell? ⟨bb, bo + k * 2, none⟩ = some (.int .i64 pk) ∧ X.cell? ⟨bb, bo + k * 2 + 1, none⟩ = some (.int .i64 tk))
                (first | exact ⟨below_drewN B10.out 1, c0, c1, c2, c3, c4, e0, e1, f0, f1⟩ | exact ⟨below_from (below_drewN B10.out 1) BB, cell_later BB c0, cell_later BB c1, cell_later BB c2, cell_later BB c3, cell_later BB c4, cell_later BB e0, cell_later BB e1, cell_later BB f0, cell_later BB f1⟩)
                ((go_at_call 47; refine (KF.out _ (below_drewN B10.out 1)).mono ?_; rintro e w' ⟨rfl, BB⟩))
              rename_i hH
              have B11 := hid (below_from B9.out (below_drew1 BB))
              clear hH BB c0 c1 c2 c3 c4 e0 e1 f0 f1

              go_wp2
              go_ret
              exact ⟨ret_bool HR.out.symm, below_from B1.out B11.out⟩
            | true =>
              have HA1 : Hid (allN (biteOk r b) (k + 1 + 1) = true) := by
                show allN (biteOk r b) (k + 1 + 1) = true
                rw [allN, HA.out, biteOk, HOK.out.1, HOK.out.2, Nat.add_sub_cancel, HFB.out, gf]; simp
              have KF : Hid (∀ w1, Below w.heap.size w w1 → Calls Try.prog 47 #[.agg #[.int .i64 r.queue, .int .i64 r.fr, .int .i64 r.un, .int .i64 r.kind, .slice (some ⟨pb, po, none⟩) r.pn r.pc], .agg #[.int .i64 pk, .int .i64 tk], .agg #[.int .i64 P, .int .i64 tj]] w1 fun e w' => e = .returned (.bool true) ∧ Below w1.heap.size w1 w') := fun w1 h1 => by have := K4.out w1 h1 pk tk P tj HPK.out.1 HPK.out.2.1 HPK.out.2.2; rw [gf] at this; exact this
              go_wp2_with fail
              obtain ⟨c0, c1, c2, c3, c4⟩ := KC.out W3 B9.out
              have e0 := E2.out
              have e1 := E3.out
              have f0 := F0.out
              have f1 := F1.out
              go_region_held3 (fun X => Below w.heap.size w X ∧ X.cell? ⟨w.heap.size, 0, none⟩ = some (.int .i64 r.queue) ∧ X.cell? ⟨w.heap.size, 1, none⟩ = some (.int .i64 r.fr) ∧ X.cell? ⟨w.heap.size, 2, none⟩ = some (.int .i64 r.un) ∧ X.cell? ⟨w.heap.size, 3, none⟩ = some (.int .i64 r.kind) ∧ X.cell? ⟨w.heap.size, 4, none⟩ = some (.slice (some ⟨pb, po, none⟩) r.pn r.pc) ∧ X.cell? ⟨wr.heap.size, 0, none⟩ = some (.int .i64 P) ∧ X.cell? ⟨wr.heap.size, 1, none⟩ = some (.int .i64 tj) ∧ X.cell? ⟨bb, bo + k * 2, none⟩ = some (.int .i64 pk) ∧ X.cell? ⟨bb, bo + k * 2 + 1, none⟩ = some (.int .i64 tk))
                (first | exact ⟨below_drewN B10.out 1, c0, c1, c2, c3, c4, e0, e1, f0, f1⟩ | exact ⟨below_from (below_drewN B10.out 1) BB, cell_later BB c0, cell_later BB c1, cell_later BB c2, cell_later BB c3, cell_later BB c4, cell_later BB e0, cell_later BB e1, cell_later BB f0, cell_later BB f1⟩)
                ((go_at_call 47; refine (KF.out _ (below_drewN B10.out 1)).mono ?_; rintro e w' ⟨rfl, BB⟩))
              rename_i hH
              have B11 := hid (below_from B9.out (below_drew1 BB))
              clear hH BB c0 c1 c2 c3 c4 e0 e1 f0 f1

              go_wp2
              go_roundw
              case rel => exact ⟨k + 1 + 1, by go_num, by omega, HA1.out, B11.out⟩
              case measure => simp [intOf]; omega
    · obtain rfl : j = bn := by omega
      go_wp2
      go_ret
      refine ⟨ret_bool ?_, below_from B1.out HB.out⟩
      rw [meets, HC0.out, ← HN.out, HBN.out, HA.out]
      simp
theorem box_cells (w : World) (r : Rq) : ∀ X : World, Below (w.alloc (.cells #[.int .i64 r.queue, .int .i64 r.fr, .int .i64 r.un, .int .i64 r.kind, .slice r.pa r.pn r.pc] 37)).heap.size (w.alloc (.cells #[.int .i64 r.queue, .int .i64 r.fr, .int .i64 r.un, .int .i64 r.kind, .slice r.pa r.pn r.pc] 37)) X → X.cell? ⟨w.heap.size, 0, none⟩ = some (.int .i64 r.queue) ∧ X.cell? ⟨w.heap.size, 1, none⟩ = some (.int .i64 r.fr) ∧ X.cell? ⟨w.heap.size, 2, none⟩ = some (.int .i64 r.un) ∧ X.cell? ⟨w.heap.size, 3, none⟩ = some (.int .i64 r.kind) ∧ X.cell? ⟨w.heap.size, 4, none⟩ = some (.slice r.pa r.pn r.pc) :=
  fun X B2 => ⟨cell_later B2 (by go_simp), cell_later B2 (by go_simp), cell_later B2 (by go_simp), cell_later B2 (by go_simp), cell_later B2 (by go_simp)⟩
theorem wantedN_pos {r : Rq} (h : chkR false r = 0) : 1 ≤ wantedN r := by
  have := of_decide_eq_true (chkR_zero.1 h).2.1
  rw [wantedN]; split <;> omega

set_option maxHeartbeats 1000000 in
theorem Meets_any (w : World) (r : Rq) (h : RqIn w r) (ba : Option Addr) (bn bc : Nat) (b : RunL) (hb : RunsIn w ba bn bc b) :
    Calls Try.prog 14 #[.agg #[.int .i64 r.queue, .int .i64 r.fr, .int .i64 r.un, .int .i64 r.kind, .slice r.pa r.pn r.pc], .slice ba bn bc] w fun e w' => e = .returned (.bool (meets r b)) ∧ Below w.heap.size w w' := by
  have HN := hid hb.len
  have hle := hb.le
  have hcb := hb.capb
  have B1 := hid ((Below.refl w.heap.size w).alloc (Nat.le_refl _) (.cells #[.int .i64 r.queue, .int .i64 r.fr, .int .i64 r.un, .int .i64 r.kind, .slice r.pa r.pn r.pc] 37))
  have K1 := hid fun w1 (hb : Below w.heap.size w w1) => wrong_any w1 r (h.later hb)
  have K2 := hid fun w1 (hb : Below w.heap.size w w1) => wanted_any w1 r (h.later hb)
  have KC := hid (box_cells w r)
  by_cases g1 : chkR false r = 0
  · by_cases g2 : (bn : Int) = wantedN r
    · have hpos : 0 < bn := by have := wantedN_pos g1; omega
      obtain ⟨bb, bo, rfl, _⟩ := hb.cells hpos
      exact Meets_some w r h bb bo bn bc b hb g1 g2 hpos
    · have hr : meets r b = false := by rw [meets, ← HN.out, decide_eq_false g2]; simp
      rw [hr]
      have hx0 : decide (chkR false r ≠ 0) = false := by rw [g1]; rfl
      rw [hx0] at K1
      obtain ⟨x, hx⟩ : ∃ x, wantedN r = x := ⟨_, rfl⟩
      rw [hx] at K2 g2
      clear hx0 hx g1 hr
      go_enter Try.func14, Try.ntmps14
      go_wp2_with fail
      refine (K1.out _ B1.out).mono ?_
      rintro e w1 ⟨rfl, B2⟩
      have B3 := hid (below_from B1.out B2)
      obtain ⟨c0, c1, c2, c3, c4⟩ := KC.out w1 B2
      clear B2
      go_wp2_with fail
      refine (K2.out w1 B3.out).mono ?_
      rintro e w2 ⟨rfl, B4⟩
      have B5 := hid (below_from B3.out B4)
      clear B4 c0 c1 c2 c3 c4
      go_wp2
      go_ret
      exact ⟨rfl, B5.out⟩
  · have hr : meets r b = false := by rw [meets, decide_eq_false g1]; rfl
    rw [hr]
    have hx0 : decide (chkR false r ≠ 0) = true := decide_eq_true g1
    rw [hx0] at K1
    clear hx0 hr g1
    go_enter Try.func14, Try.ntmps14
    go_wp2_with fail
    refine (K1.out _ B1.out).mono ?_
    rintro e w1 ⟨rfl, B2⟩
    have B3 := hid (below_from B1.out B2)
    clear B2
    go_wp2
    go_ret
    exact ⟨rfl, B3.out⟩
end Go.Proofs.Ytcgchicdmgllaad
