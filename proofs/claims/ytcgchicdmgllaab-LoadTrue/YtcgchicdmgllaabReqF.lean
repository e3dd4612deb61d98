/- Contract of the reference's MeetsOf: it is what req.Meets answers. -/
import Derived.Test.YtcgchicdmgllaabReqE
namespace Go.Proofs.Ytcgchicdmgllaab
open Go.RowKit

def firstOk (r : Rq) (b : RunL) (k : Nat) : Bool := (isPiece r b k && (decide (k = 0) || decide (rAt b (k - 1) < rAt b k))) && inTime r b k
def secondOk (r : Rq) (b : RunL) (k : Nat) : Bool := decide (k = 0) || (if r.kind = 3 then decide (rN b (k - 1) + rAt r.ps (k - 1) ≤ rN b k) else if r.kind = 4 then decide (rN b k = rN b (k - 1) + rAt r.ps (k - 1)) else true)
def meetsOf (r : Rq) (b : RunL) : Bool := decide (chkR false r = 0) && (allN (firstOk r b) b.length && (if r.kind = 2 then decide (b.length = 1) else (decide (b.length = r.ps.length) && allN (secondOk r b) b.length)))
theorem firstOk_at {r : Rq} {b : RunL} {k : Nat} (h : firstOk r b k = true) : isPiece r b k = true ∧ (k = 0 ∨ rAt b (k - 1) < rAt b k) ∧ inTime r b k = true := by
  simp [firstOk] at h
  exact ⟨h.1.1, h.1.2, h.2⟩
/-- pieces that rise, as many as there are, are told in their order -/
theorem piece_is {r : Rq} {b : RunL} (hn : b.length = r.ps.length) (h3 : r.ps.length ≤ 3) (h : allN (firstOk r b) b.length = true) (k : Nat) (hk : k < b.length) : rAt b k = k := by
  have g := fun i hi => firstOk_at (allN_iff.1 h i hi)
  have p := fun i hi => isPiece_at (g i hi).1
  have q := fun i hi => (g i hi).2.1
  by_cases h1 : b.length = 1
  · have := p 0 (by omega); obtain rfl : k = 0 := by omega
    omega
  by_cases h2 : b.length = 2
  · have a0 := p 0 (by omega); have a1 := p 1 (by omega); have q1 := q 1 (by omega)
    simp at q1
    by_cases e : k = 0
    · subst e; omega
    · obtain rfl : k = 1 := by omega
      omega
  · have h3 : b.length = 3 := by omega
    have a0 := p 0 (by omega); have a1 := p 1 (by omega); have a2 := p 2 (by omega); have q1 := q 1 (by omega); have q2 := q 2 (by omega)
    simp at q1 q2
    by_cases e : k = 0
    · subst e; omega
    by_cases e1 : k = 1
    · subst e1; omega
    · obtain rfl : k = 2 := by omega
      omega
theorem meetsOf_eq (r : Rq) (b : RunL) : meetsOf r b = meets r b := by
  by_cases hc : chkR false r = 0
  case neg => rw [meetsOf, meets, decide_eq_false hc]; rfl
  have h3 := of_decide_eq_true (chkR_zero.1 hc).2.1
  rw [meetsOf, meets, hc]
  by_cases hk : r.kind = 2
  · rw [if_pos hk, wantedN, if_pos hk]
    by_cases h1 : b.length = 1
    · rw [h1]
      simp [allN, firstOk, biteOk]
    · have e1 : decide (b.length = 1) = false := decide_eq_false h1
      have e2 : decide ((b.length : Int) = 1) = false := decide_eq_false (by omega)
      rw [e1, e2]; simp
  · rw [if_neg hk, wantedN, if_neg hk]
    by_cases hn : b.length = r.ps.length
    · have e1 : decide (b.length = r.ps.length) = true := decide_eq_true hn
      have e2 : decide ((b.length : Int) = r.ps.length) = true := decide_eq_true (by omega)
      rw [e1, e2]
      rw [Bool.eq_iff_iff]
      simp only [decide_true, Bool.true_and, Bool.and_eq_true, allN_iff]
      constructor
      · rintro ⟨h1, h2⟩ k hk
        have f := firstOk_at (h1 k hk)
        have s := h2 k hk
        rw [biteOk, f.1, f.2.2]
        by_cases k0 : k = 0
        · simp [k0]
        · have f2 : rAt b (k - 1) < rAt b k := by rcases f.2.1 with e | e; exact absurd e k0; exact e
          have hp := piece_is hn (by omega) (allN_iff.2 h1) (k - 1) (by omega)
          have hl : lenOf r b (k - 1) = rAt r.ps (k - 1) := by rw [lenOf, hp, Int.toNat_natCast]
          rw [secondOk, decide_eq_false k0] at s
          rw [followsB, overAt, hl, decide_eq_true f2]
          simp at s ⊢
          exact Or.inr s
      · intro h
        have hf : ∀ k, k < b.length → firstOk r b k = true := fun k hk => by
          have f := biteOk_at (h k hk)
          rw [firstOk, f.1, f.2.1]
          rcases f.2.2 with e | e
          · simp [e]
          · rw [followsB, Bool.and_eq_true] at e
            simp [of_decide_eq_true e.1]
        refine ⟨hf, fun k hk => ?_⟩
        by_cases k0 : k = 0
        · simp [secondOk, k0]
        · have f := biteOk_at (h k hk)
          have f2 : followsB r b (k - 1) k = true := by rcases f.2.2 with e | e; exact absurd e k0; exact e
          have hp := piece_is hn (by omega) (allN_iff.2 hf) (k - 1) (by omega)
          have hl : lenOf r b (k - 1) = rAt r.ps (k - 1) := by rw [lenOf, hp, Int.toNat_natCast]
          rw [followsB, overAt, hl, Bool.and_eq_true] at f2
          rw [secondOk, decide_eq_false k0]
          simpa using f2.2
    · have e1 : decide (b.length = r.ps.length) = false := decide_eq_false hn
      have e2 : decide ((b.length : Int) = r.ps.length) = false := decide_eq_false (by omega)
      rw [e1, e2]; simp

theorem meetsOf_bad {r : Rq} {b : RunL} {n j : Nat} (hn : Hid (n = b.length)) (hj : j < n) (h : firstOk r b j = false) : meetsOf r b = false := by
  rw [meetsOf, ← hn.out, allN_false h n hj]; simp
set_option maxRecDepth 100000 in
set_option maxHeartbeats 4000000 in
theorem MeetsOf_some (w : World) (r : Rq) (h : RqIn w r) (bb bo bn bc : Nat) (b : RunL) (hb : RunsIn w (some ⟨bb, bo, none⟩) bn bc b) (hc0 : chkR false r = 0) (hpos : 0 < bn) :
    Calls Try.prog 15 #[.agg #[.int .i64 r.queue, .int .i64 r.fr, .int .i64 r.un, .int .i64 r.kind, .slice r.pa r.pn r.pc], .slice (some ⟨bb, bo, none⟩) bn bc] w fun e w' => e = .returned (.bool (meetsOf r b)) ∧ Below w.heap.size w w' := by
  have HN := hid hb.len
  have hle := hb.le
  have hcb := hb.capb
  have hp3 := of_decide_eq_true (chkR_zero.1 hc0).2.1
  have hpl := h.len
  have hpp : 0 < r.pn := by omega
  have hp3' : r.pn ≤ 3 := by omega
  have HPN := hid hpl
  clear hpl hp3
  obtain ⟨pb, po, hpa, hpc⟩ := h.cells hpp
  have B1 := hid ((Below.refl w.heap.size w).alloc (Nat.le_refl _) (.cells #[.int .i64 r.queue, .int .i64 r.fr, .int .i64 r.un, .int .i64 r.kind, .slice (some ⟨pb, po, none⟩) r.pn r.pc] 25))
  have K1 := hid fun w1 (hb : Below w.heap.size w w1) => shaped_any w1 r (h.later hb)
  rw [hpa] at K1
  rw [hpa]
  have KC : Hid (∀ X : World, Below (w.alloc (.cells #[.int .i64 r.queue, .int .i64 r.fr, .int .i64 r.un, .int .i64 r.kind, .slice (some ⟨pb, po, none⟩) r.pn r.pc] 25)).heap.size (w.alloc (.cells #[.int .i64 r.queue, .int .i64 r.fr, .int .i64 r.un, .int .i64 r.kind, .slice (some ⟨pb, po, none⟩) r.pn r.pc] 25)) X → X.cell? ⟨w.heap.size, 0, none⟩ = some (.int .i64 r.queue) ∧ X.cell? ⟨w.heap.size, 1, none⟩ = some (.int .i64 r.fr) ∧ X.cell? ⟨w.heap.size, 2, none⟩ = some (.int .i64 r.un) ∧ X.cell? ⟨w.heap.size, 3, none⟩ = some (.int .i64 r.kind) ∧ X.cell? ⟨w.heap.size, 4, none⟩ = some (.slice (some ⟨pb, po, none⟩) r.pn r.pc)) :=
    fun X B2 => ⟨cell_later B2 (by go_simp), cell_later B2 (by go_simp), cell_later B2 (by go_simp), cell_later B2 (by go_simp), cell_later B2 (by go_simp)⟩
  obtain ⟨b', off', e, hcc⟩ := hb.cells hpos
  cases e
  have HC0 := hid hc0
  have HS := hid (spn_at hc0)
  have hx0 : decide (chkR false r = 0) = true := by rw [hc0]; rfl
  rw [hx0] at K1
  have hwp : IntKind.i64.wrap ((r.pn : Int) - 1) = r.pn - 1 := by rw [IntKind.wrap_i64]; omega
  have HCB0 := hid hcc
  have HPB0 := hid hpc
  clear hcc hpc hx0 hc0 hpa h hb
  go_enter Try.func15, Try.ntmps15
  go_wp2_with fail
  refine (K1.out _ B1.out).mono ?_
  rintro e w1 ⟨rfl, B2⟩
  have B3 := hid (below_from B1.out B2)
  have KC1 := hid fun X (hX : Below w1.heap.size w1 X) => KC.out X (below_from B2 hX)
  have HCB : Hid (∀ i, i < bn → w1.cell? ⟨bb, bo + i * 2, none⟩ = some (.int .i64 (rAt b i)) ∧ w1.cell? ⟨bb, bo + i * 2 + 1, none⟩ = some (.int .i64 (rN b i))) := fun i hi => ⟨cell_later B3.out (HCB0.out i hi).1, cell_later B3.out (HCB0.out i hi).2⟩
  have HPB : Hid (∀ i, i < r.pn → w1.cell? ⟨pb, po + i * 2, none⟩ = some (.int .i64 (rAt r.ps i))) := fun i hi => cell_later B3.out (HPB0.out i hi).1
  clear B2 HCB0 HPB0 KC B1 K1
  go_wp2_with fail
  go_loopw [5] (fun st wr => ∃ j : Nat, st = .int .i64 j ∧ j ≤ bn ∧ allN (firstOk r b) j = true ∧ Below w1.heap.size w1 wr) (fun st _ => bn - (intOf st).toNat)
  case atStart => exact ⟨0, rfl, by omega, rfl, Below.refl _ _⟩
  case round =>
    obtain ⟨j, rfl, hj, hall, hbel⟩ := hrel
    have HA := hid hall
    have HB := hid hbel
    clear hall hbel
    by_cases hlt : j < bn
    · have hlt' : (j : Int) < bn := by omega
      have d0 := cell_later HB.out (HCB.out j hlt).1
      have d1 := cell_later HB.out (HCB.out j hlt).2
      obtain ⟨c0, c1, c2, c3, c4⟩ := KC1.out wr HB.out
      obtain ⟨pj, hpj⟩ : ∃ x, rAt b j = x := ⟨_, rfl⟩
      obtain ⟨tj, htj⟩ : ∃ x, rN b j = x := ⟨_, rfl⟩
      rw [hpj] at d0
      rw [htj] at d1
      have HPJ := hid hpj
      have HTJ := hid htj
      clear hpj htj
      cases g : wth pj 0 ((r.pn : Int) - 1) with
      | false =>
        have HR := hid (meetsOf_bad HN hlt (show firstOk r b j = false by rw [firstOk, isPiece, HPJ.out, ← HPN.out, g]; rfl))
        go_wp2_with fail
        go_quiet ((go_at_call 36; exact Calls.quiet_of_same (within_any _ _ _ _)))
        go_wp2
        go_ret
        exact ⟨ret_bool HR.out.symm, below_from B3.out (below_drewN HB.out _)⟩
      | true =>
        have hpw := of_decide_eq_true g
        obtain ⟨P, rfl⟩ := Int.eq_ofNat_of_zero_le hpw.1
        have hP : P < r.pn := by omega
        have hP' : (P : Int) < r.pn := by omega
        obtain ⟨L, hL⟩ : ∃ L, rAt r.ps P = L := ⟨_, rfl⟩
        have HLB : Hid (1 ≤ L ∧ L ≤ 24) := by
          have := piece_at HC0.out (k := P) (by have := HPN.out; omega)
          rw [hL] at this
          exact ⟨this.1, this.2.1⟩
        have q0 : wr.cell? ⟨pb, po + P * 2, none⟩ = some (.int .i64 L) := by rw [← hL]; exact cell_later HB.out (HPB.out P hP)
        have HLE : Hid (lenOf r b j = L) := by show lenOf r b j = L; rw [lenOf, HPJ.out, Int.toNat_natCast, hL]
        have hwr : IntKind.i64.wrap (r.un - L) = r.un - L := by have := HS.out; have := HLB.out; rw [IntKind.wrap_i64]; omega
        clear hL hpw
        cases j with
        | zero =>
          simp only [Nat.zero_mul, Nat.add_zero] at d0 d1
          have g3 : decide ((0 : Int) < 0) = false := by simp
          by_cases x1 : tj < r.fr
          · have x1' : decide (tj < r.fr) = true := decide_eq_true x1
            have HR := hid (meetsOf_bad HN hlt (show firstOk r b (0) = false by
              have : inTime r b (0) = false := decide_eq_false (by rw [HTJ.out]; omega)
              rw [firstOk, this]; simp))
            go_wp2_with fail
            go_quiet ((go_at_call 36; exact Calls.quiet_of_same (within_any _ _ _ _)))
            go_wp2_with fail
            go_quiet (fail)
            go_wp2
            go_ret
            exact ⟨ret_bool HR.out.symm, below_from B3.out (below_drewN (below_drewN HB.out _) _)⟩
          have x1' : decide (tj < r.fr) = false := decide_eq_false x1
          by_cases x2 : r.un < tj
          · have x2' : decide (r.un < tj) = true := decide_eq_true x2
            have HR := hid (meetsOf_bad HN hlt (show firstOk r b (0) = false by
              have : inTime r b (0) = false := decide_eq_false (by rw [HTJ.out, HLE.out]; have := HLB.out; omega)
              rw [firstOk, this]; simp))
            go_wp2_with fail
            go_quiet ((go_at_call 36; exact Calls.quiet_of_same (within_any _ _ _ _)))
            go_wp2_with fail
            go_quiet (fail)
            go_wp2
            go_ret
            exact ⟨ret_bool HR.out.symm, below_from B3.out (below_drewN (below_drewN HB.out _) _)⟩
          have x2' : decide (r.un < tj) = false := decide_eq_false x2
          by_cases x3 : r.un - L < tj
          · have x3' : decide (r.un - L < tj) = true := decide_eq_true x3
            have HR := hid (meetsOf_bad HN hlt (show firstOk r b (0) = false by
              have : inTime r b (0) = false := decide_eq_false (by rw [HTJ.out, HLE.out]; omega)
              rw [firstOk, this]; simp))
            go_wp2_with fail
            go_quiet ((go_at_call 36; exact Calls.quiet_of_same (within_any _ _ _ _)))
            go_wp2_with fail
            go_quiet (fail)
            go_wp2
            go_ret
            exact ⟨ret_bool HR.out.symm, below_from B3.out (below_drewN (below_drewN HB.out _) _)⟩
          have x3' : decide (r.un - L < tj) = false := decide_eq_false x3
          have HA1 : Hid (allN (firstOk r b) (0 + 1) = true) := by
            show allN (firstOk r b) (0 + 1) = true
            have h1 : isPiece r b (0) = true := by rw [isPiece, HPJ.out, ← HPN.out]; exact g
            have h2 : inTime r b (0) = true := decide_eq_true (by rw [HTJ.out, HLE.out]; omega)
            rw [allN, HA.out, firstOk, h1, h2]
            rfl
          go_wp2_with fail
          go_quiet ((go_at_call 36; exact Calls.quiet_of_same (within_any _ _ _ _)))
          go_wp2_with fail
          go_quiet (fail)
          go_wp2
          go_roundw
          case rel => exact ⟨0 + 1, by go_num, by omega, HA1.out, below_drewN HB.out _⟩
          case measure => simp [intOf]; omega
        | succ k =>
          have g3 : decide ((0 : Int) < ↑k + 1) = true := by simp
          have hk' : (k : Int) < bn := by omega
          have hwk : IntKind.i64.wrap (k : Int) = k := by rw [IntKind.wrap_i64]; omega
          have f0 := cell_later HB.out (HCB.out k (by omega)).1
          obtain ⟨pk, hpk⟩ : ∃ x, rAt b k = x := ⟨_, rfl⟩
          rw [hpk] at f0
          have HPK := hid hpk
          clear hpk
          by_cases g4 : (P : Int) ≤ pk
          · have g4' : decide ((P : Int) ≤ pk) = true := decide_eq_true g4
            have HR := hid (meetsOf_bad HN hlt (show firstOk r b (k + 1) = false by
              have : decide (rAt b (k + 1 - 1) < rAt b (k + 1)) = false := decide_eq_false (by rw [Nat.add_sub_cancel, HPJ.out, HPK.out]; omega)
              rw [firstOk, this]; simp))
            go_wp2_with fail
            go_quiet ((go_at_call 36; exact Calls.quiet_of_same (within_any _ _ _ _)))
            go_wp2
            go_ret
            exact ⟨ret_bool HR.out.symm, below_from B3.out (below_drewN HB.out _)⟩
          have g4' : decide ((P : Int) ≤ pk) = false := decide_eq_false g4
          by_cases x1 : tj < r.fr
          · have x1' : decide (tj < r.fr) = true := decide_eq_true x1
            have HR := hid (meetsOf_bad HN hlt (show firstOk r b (k + 1) = false by
              have : inTime r b (k + 1) = false := decide_eq_false (by rw [HTJ.out]; omega)
              rw [firstOk, this]; simp))
            go_wp2_with fail
            go_quiet ((go_at_call 36; exact Calls.quiet_of_same (within_any _ _ _ _)))
            go_wp2_with fail
            go_quiet (fail)
            go_wp2
            go_ret
            exact ⟨ret_bool HR.out.symm, below_from B3.out (below_drewN (below_drewN HB.out _) _)⟩
          have x1' : decide (tj < r.fr) = false := decide_eq_false x1
          by_cases x2 : r.un < tj
          · have x2' : decide (r.un < tj) = true := decide_eq_true x2
            have HR := hid (meetsOf_bad HN hlt (show firstOk r b (k + 1) = false by
              have : inTime r b (k + 1) = false := decide_eq_false (by rw [HTJ.out, HLE.out]; have := HLB.out; omega)
              rw [firstOk, this]; simp))
            go_wp2_with fail
            go_quiet ((go_at_call 36; exact Calls.quiet_of_same (within_any _ _ _ _)))
            go_wp2_with fail
            go_quiet (fail)
            go_wp2
            go_ret
            exact ⟨ret_bool HR.out.symm, below_from B3.out (below_drewN (below_drewN HB.out _) _)⟩
          have x2' : decide (r.un < tj) = false := decide_eq_false x2
          by_cases x3 : r.un - L < tj
          · have x3' : decide (r.un - L < tj) = true := decide_eq_true x3
            have HR := hid (meetsOf_bad HN hlt (show firstOk r b (k + 1) = false by
              have : inTime r b (k + 1) = false := decide_eq_false (by rw [HTJ.out, HLE.out]; omega)
              rw [firstOk, this]; simp))
            go_wp2_with fail
            go_quiet ((go_at_call 36; exact Calls.quiet_of_same (within_any _ _ _ _)))
            go_wp2_with fail
            go_quiet (fail)
            go_wp2
            go_ret
            exact ⟨ret_bool HR.out.symm, below_from B3.out (below_drewN (below_drewN HB.out _) _)⟩
          have x3' : decide (r.un - L < tj) = false := decide_eq_false x3
          have HA1 : Hid (allN (firstOk r b) (k + 1 + 1) = true) := by
            show allN (firstOk r b) (k + 1 + 1) = true
            have h1 : isPiece r b (k + 1) = true := by rw [isPiece, HPJ.out, ← HPN.out]; exact g
            have h2 : inTime r b (k + 1) = true := decide_eq_true (by rw [HTJ.out, HLE.out]; omega)
            rw [allN, HA.out, firstOk, h1, h2]
            simp only [Nat.add_sub_cancel]; rw [HPJ.out, HPK.out]; simp; omega
          go_wp2_with fail
          go_quiet ((go_at_call 36; exact Calls.quiet_of_same (within_any _ _ _ _)))
          go_wp2_with fail
          go_quiet (fail)
          go_wp2
          go_roundw
          case rel => exact ⟨k + 1 + 1, by go_num, by omega, HA1.out, below_drewN HB.out _⟩
          case measure => simp [intOf]; omega
    · obtain rfl : bn = j := by omega
      obtain ⟨wo, hwo⟩ : ∃ wo : World, wo = wr := ⟨_, rfl⟩
      rw [← hwo] at HB
      rw [← hwo]
      clear hwo wr
      obtain ⟨c0, c1, c2, c3, c4⟩ := KC1.out wo HB.out
      by_cases k2 : r.kind = 2
      · have HR : Hid (meetsOf r b = decide (bn = 1)) := by
          show meetsOf r b = decide (bn = 1)
          rw [meetsOf, HC0.out, if_pos k2, ← HN.out, HA.out]; simp
        rw [k2] at c3
        go_wp2
        go_ret
        refine ⟨ret_bool ?_, below_from B3.out HB.out⟩
        rw [HR.out, Bool.eq_iff_iff]; simp; omega
      by_cases kn : bn = r.pn
      · have HR : Hid (meetsOf r b = allN (secondOk r b) bn) := by
          show meetsOf r b = allN (secondOk r b) bn
          rw [meetsOf, HC0.out, if_neg k2, ← HN.out, ← HPN.out, HA.out, kn]; simp
        have HR0 : Hid (∀ j, j < bn → secondOk r b j = false → meetsOf r b = false) := fun j hj hs => by rw [HR.out]; exact allN_false hs bn hj
        subst kn
        have k2' : (r.kind == 2) = false := by simp [k2]
        have K2 := hid k2
        clear k2
        have HT : Hid (∀ k, k < r.pn → (0 ≤ rN b k ∧ rN b k ≤ 48) ∧ (1 ≤ rAt r.ps k ∧ rAt r.ps k ≤ 24)) := fun k hk => by
          have f := firstOk_at (allN_iff.1 HA.out k hk)
          have h1 := inTime_at f.2.2
          have h2 := lenOf_at HC0.out f.1
          have h3 := HS.out
          have h4 := piece_at HC0.out (k := k) (by have := HPN.out; omega)
          exact ⟨by omega, h4.1, h4.2.1⟩
        go_wp2_with fail
        go_loopw [6, 7] (fun st _ wr => ∃ k : Nat, st = .int .i64 ((k + 1 : Nat) : Int) ∧ k < r.pn ∧ allN (secondOk r b) (k + 1) = true ∧ Below wo.heap.size wo wr) (fun st _ _ => r.pn - (intOf st).toNat)
        case atStart => exact ⟨0, rfl, by omega, by simp [allN, secondOk], Below.refl _ _⟩
        case round =>
          obtain ⟨k, rfl, hk, hall, hbel⟩ := hrel
          have HA2 := hid hall
          have HB2 := hid hbel
          clear hall hbel c0 c1 c2 c3 c4
          by_cases hlt : k + 1 < r.pn
          · have hlt' : (k : Int) + 1 < r.pn := by omega
            have hk' : (k : Int) < r.pn := by omega
            have hkp : (k : Int) < r.pn := by omega
            have hwk : IntKind.i64.wrap (k : Int) = k := by rw [IntKind.wrap_i64]; omega
            have d1 := cell_later (below_from HB.out HB2.out) (HCB.out (k + 1) hlt).2
            have f1 := cell_later (below_from HB.out HB2.out) (HCB.out k hk).2
            have q0 := cell_later (below_from HB.out HB2.out) (HPB.out k (by omega))
            obtain ⟨c0, c1, c2, c3, c4⟩ := KC1.out wr (below_from HB.out HB2.out)
            have hT := HT.out k hk
            obtain ⟨tj, htj⟩ : ∃ x, rN b (k + 1) = x := ⟨_, rfl⟩
            obtain ⟨tk, htk⟩ : ∃ x, rN b k = x := ⟨_, rfl⟩
            obtain ⟨L, hL⟩ : ∃ x, rAt r.ps k = x := ⟨_, rfl⟩
            rw [htj] at d1
            rw [htk] at f1 hT
            rw [hL] at q0 hT
            have hws : IntKind.i64.wrap (tk + L) = tk + L := by rw [IntKind.wrap_i64]; omega
            have HSE : Hid (secondOk r b (k + 1) = if r.kind = 3 then decide (tk + L ≤ tj) else if r.kind = 4 then decide (tj = tk + L) else true) := by
              show secondOk r b (k + 1) = if r.kind = 3 then decide (tk + L ≤ tj) else if r.kind = 4 then decide (tj = tk + L) else true
              rw [secondOk, Nat.add_sub_cancel, htj, htk, hL]; simp
            clear htj htk hL hT
            by_cases k3 : r.kind = 3
            · rw [k3] at c3
              have K3 := hid k3
              clear k3
              by_cases x1 : tj < tk + L
              · have HF := hid (HR0.out (k + 1) hlt (by rw [HSE.out, if_pos K3.out]; exact decide_eq_false (by omega)))
                go_wp2_with fail
                go_quiet (fail)
                go_wp2
                go_ret
                exact ⟨ret_bool HF.out.symm, below_from B3.out (below_from HB.out (below_drewN HB2.out _))⟩
              · have HA3 : Hid (allN (secondOk r b) (k + 1 + 1) = true) := by
                  show allN (secondOk r b) (k + 1 + 1) = true
                  rw [allN, HA2.out, HSE.out, if_pos K3.out]; simp; omega
                go_wp2_with fail
                go_quiet (fail)
                go_wp2
                go_roundw
                case rel => exact ⟨k + 1, by go_num, by omega, HA3.out, below_drewN HB2.out _⟩
                case measure => simp [intOf]; omega
            by_cases k4 : r.kind = 4
            · rw [k4] at c3
              have K4 := hid k4
              clear k4
              by_cases x1 : tj = tk + L
              · have HA3 : Hid (allN (secondOk r b) (k + 1 + 1) = true) := by
                  show allN (secondOk r b) (k + 1 + 1) = true
                  rw [allN, HA2.out, HSE.out, if_neg k3, if_pos K4.out, decide_eq_true x1]; rfl
                have x1' : (tj != tk + L) = false := by simp [x1]
                have X1 := hid x1
                clear x1
                go_wp2_with fail
                go_quiet (fail)
                go_wp2
                go_roundw
                case rel => exact ⟨k + 1, by go_num, by omega, HA3.out, below_drewN HB2.out _⟩
                case measure => simp [intOf]; omega
              · have HF := hid (HR0.out (k + 1) hlt (by rw [HSE.out, if_neg k3, if_pos K4.out]; exact decide_eq_false x1))
                have x1' : (tj != tk + L) = true := by simp [x1]
                go_wp2_with fail
                go_quiet (fail)
                go_wp2
                go_ret
                exact ⟨ret_bool HF.out.symm, below_from B3.out (below_from HB.out (below_drewN HB2.out _))⟩
            · have HA3 : Hid (allN (secondOk r b) (k + 1 + 1) = true) := by
                show allN (secondOk r b) (k + 1 + 1) = true
                rw [allN, HA2.out, HSE.out, if_neg k3, if_neg k4]; rfl
              go_wp2_with fail
              go_quiet (fail)
              go_wp2
              go_roundw
              case rel => exact ⟨k + 1, by go_num, by omega, HA3.out, below_drewN HB2.out _⟩
              case measure => simp [intOf]; omega
          · have hkE : k + 1 = r.pn := by omega
            have HKE := hid hkE
            have hlt2 : ¬ (k : Int) + 1 < r.pn := by omega
            clear hkE
            go_wp2
            go_ret
            exact ⟨ret_bool (by rw [HR.out, ← HKE.out, HA2.out]), below_from B3.out (below_from HB.out HB2.out)⟩
      · have HR : Hid (meetsOf r b = false) := by
          show meetsOf r b = false
          rw [meetsOf, if_neg k2, ← HN.out, ← HPN.out, decide_eq_false kn]; simp
        have kn' : ¬ (bn : Int) = r.pn := by omega
        go_wp2
        go_ret
        exact ⟨ret_bool HR.out.symm, below_from B3.out HB.out⟩
end Go.Proofs.Ytcgchicdmgllaab
