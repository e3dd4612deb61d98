/- Contracts of req.Over, and of the library's ContainsFunc on bites. -/
import Derived.Test.YtcgchicdmgllaadReqD
namespace Go.Proofs.Ytcgchicdmgllaad
open Go.RowKit

set_option maxHeartbeats 400000 in
theorem IndexBs_some (fk : Nat) (caps : Array Value) (p : Int → Int → Bool) (hk : ∀ (args : Array Value) (w : World), (callFunc fk args).run Try.prog w = .ok (.enter fk args) w) (w : World) (b off n cap : Nat) (l : RunL) (h : RunsIn w (some ⟨b, off, none⟩) n cap l) (hp : 0 < n)
    (hm : ∀ w', Below w.heap.size w w' → ∀ x y : Int, Calls Try.prog fk (#[.agg #[.int .i64 x, .int .i64 y]] ++ caps) w' fun e w'' => e = .returned (.bool (!p x y)) ∧ Below w'.heap.size w' w'') :
    Calls Try.prog 72 #[.slice (some ⟨b, off, none⟩) n cap, .func (.func fk) #[] caps] w fun e w' => ∃ r : Int, e = .returned (.int .i64 r) ∧ (decide (0 ≤ r)) = (!allN (fun i => p (rAt l i) (rN l i)) n) ∧ Below w.heap.size w w' := by
  have HN := hid h.len
  have hle := h.le
  have hbd := h.capb
  obtain ⟨b', off', e, hc⟩ := h.cells hp
  cases e
  have HC := hid hc
  have HM := hid hm
  clear hc hm
  go_enter Try.func72, Try.ntmps72
  go_wp2
  go_loopw [5, 8] (fun _ st wr => ∃ k : Nat, st = .int .i64 k ∧ k ≤ n ∧ allN (fun i => p (rAt l i) (rN l i)) k = true ∧ Below w.heap.size w wr) (fun _ st _ => n - (intOf st).toNat)
  case atStart => exact ⟨0, rfl, by omega, rfl, Below.refl _ _⟩
  case round =>
    obtain ⟨j, rfl, hj, hall, hbel⟩ := hrel
    have HA := hid hall
    have HB := hid hbel
    clear hall hbel
    by_cases hlt : j < n
    · have hlt' : (j : Int) < n := by omega
      have c0 := cell_later HB.out (HC.out j hlt).1
      have c1 := cell_later HB.out (HC.out j hlt).2
      cases g : p (rAt l j) (rN l j) with
      | false =>
        go_wp2_with fail
        refine (HM.out wr HB.out (rAt l j) (rN l j)).mono ?_
        rintro e w1 ⟨rfl, hb1⟩
        rw [g]
        go_wp2
        go_ret
        exact ⟨_, rfl, by rw [allN_false (p := fun i => p (rAt l i) (rN l i)) g n hlt]; simp, below_from HB.out hb1⟩
      | true =>
        go_wp2_with fail
        refine (HM.out wr HB.out (rAt l j) (rN l j)).mono ?_
        rintro e w1 ⟨rfl, hb1⟩
        have HB1 := hid hb1
        clear hb1
        rw [g]
        go_wp2
        go_roundw
        case rel => exact ⟨j + 1, by go_num, by omega, by rw [allN, HA.out, g]; rfl, below_from HB.out HB1.out⟩
        case measure => simp [intOf]; omega
    · obtain rfl : j = n := by omega
      go_wp2
      go_ret
      exact ⟨_, rfl, by rw [HA.out]; rfl, HB.out⟩
theorem ContainsBs_any (fk : Nat) (caps : Array Value) (p : Int → Int → Bool) (hk : ∀ (args : Array Value) (w : World), (callFunc fk args).run Try.prog w = .ok (.enter fk args) w) (w : World) (a : Option Addr) (n cap : Nat) (l : RunL) (h : RunsIn w a n cap l) (hp : 0 < n)
    (hm : ∀ w', Below w.heap.size w w' → ∀ x y : Int, Calls Try.prog fk (#[.agg #[.int .i64 x, .int .i64 y]] ++ caps) w' fun e w'' => e = .returned (.bool (!p x y)) ∧ Below w'.heap.size w' w'') :
    Calls Try.prog 40 #[.slice a n cap, .func (.func fk) #[] caps] w fun e w' => e = .returned (.bool (!allN (fun i => p (rAt l i) (rN l i)) n)) ∧ Below w.heap.size w w' := by
  obtain ⟨b, off, rfl, _⟩ := h.cells hp
  have HM := hid hm
  clear hm
  go_enter Try.func40, Try.ntmps40
  go_wp2_with fail
  refine (IndexBs_some fk caps p hk w b off n cap l h hp HM.out).mono ?_
  rintro e w1 ⟨r, rfl, hr, hb⟩
  have HR := hid hr
  clear hr
  go_wp2
  go_ret
  exact ⟨ret_bool HR.out, hb⟩

/-- may a bite be asked for when it is over? -/
def askV (r : Rq) (p t : Int) : Bool := wth p 0 ((r.ps.length : Int) - 1) && wth t 0 48
theorem Over1_any (w : World) (r : Rq) (h : RqIn w r) (B : Nat) (p t : Int) (hB : B < w.heap.size)
    (hX : (fun X : World => X.cell? ⟨B, 0, none⟩ = some (.int .i64 r.queue) ∧ X.cell? ⟨B, 1, none⟩ = some (.int .i64 r.fr) ∧ X.cell? ⟨B, 2, none⟩ = some (.int .i64 r.un) ∧ X.cell? ⟨B, 3, none⟩ = some (.int .i64 r.kind) ∧ X.cell? ⟨B, 4, none⟩ = some (.slice r.pa r.pn r.pc)) w) :
    Calls Try.prog 41 #[.agg #[.int .i64 p, .int .i64 t], .pointer (some ⟨B, 0, none⟩)] w fun e w' => e = .returned (.bool (!askV r p t)) ∧ Below w.heap.size w w' := by
  have B1 := hid ((Below.refl w.heap.size w).alloc (Nat.le_refl _) (.cells #[.int .i64 p, .int .i64 t] 83))
  have K := hid (noPiece_any _ r (h.later B1.out) p t)
  obtain ⟨c0, c1, c2, c3, c4⟩ := hX
  cases g : wth p 0 ((r.ps.length : Int) - 1) with
  | false =>
    have hr : askV r p t = false := by rw [askV, g]; rfl
    rw [hr]
    rw [g] at K
    go_enter Try.func41, Try.ntmps41
    go_wp2_with fail
    refine K.out.mono ?_
    rintro e w1 ⟨rfl, B2⟩
    have B3 := hid (below_from B1.out B2)
    clear B2
    go_wp2
    go_ret
    exact ⟨rfl, B3.out⟩
  | true =>
    have hr : Hid (askV r p t = wth t 0 48) := by show askV r p t = wth t 0 48; rw [askV, g]; rfl
    rw [hr.out]
    rw [g] at K
    go_enter Try.func41, Try.ntmps41
    go_wp2_with fail
    refine K.out.mono ?_
    rintro e w1 ⟨rfl, B2⟩
    have B3 := hid (below_from B1.out B2)
    have d1 : w1.cell? ⟨w.heap.size, 1, none⟩ = some (.int .i64 t) := cell_later B2 (by go_simp)
    clear B2
    go_wp2
    all_goals
      go_ret
      refine ⟨ret_bool ?_, B3.out⟩
      rw [Bool.eq_iff_iff]; simp [wth]; try omega
def askAll (r : Rq) (b : RunL) : Bool := allN (fun i => askV r (rAt b i) (rN b i)) b.length
def overMax (r : Rq) (b : RunL) : Nat → Int
  | 0 => 0
  | k + 1 => max (overMax r b k) (overAt r b k)
def overOk (r : Rq) (b : RunL) : Bool := decide (chkR false r = 0) && (decide (0 < b.length) && askAll r b)
theorem overOk_no {r : Rq} {b : RunL} (h : overOk r b = false) : (if overOk r b = true then overMax r b b.length else 0) = 0 ∧ (if overOk r b = true then (0 : Int) else 1) = 1 := by rw [h]; exact ⟨rfl, rfl⟩
theorem overOk_yes {r : Rq} {b : RunL} (h : overOk r b = true) : (if overOk r b = true then overMax r b b.length else 0) = overMax r b b.length ∧ (if overOk r b = true then (0 : Int) else 1) = 0 := by rw [h]; exact ⟨rfl, rfl⟩
theorem ask_at {r : Rq} {b : RunL} {i n : Nat} (hc : chkR false r = 0) (h : allN (fun i => askV r (rAt b i) (rN b i)) n = true) (hi : i < n) :
    (0 ≤ rAt b i ∧ rAt b i < r.ps.length) ∧ (1 ≤ rAt r.ps (rAt b i).toNat ∧ rAt r.ps (rAt b i).toNat ≤ 24) ∧ (0 ≤ rN b i ∧ rN b i ≤ 48) := by
  have h1 := allN_iff.1 h i hi
  simp only [askV, Bool.and_eq_true] at h1
  have h2 := of_decide_eq_true h1.1
  have h3 := of_decide_eq_true h1.2
  have h4 := piece_at hc (k := (rAt b i).toNat) (by omega)
  exact ⟨⟨by omega, by omega⟩, ⟨h4.1, h4.2.1⟩, h3⟩
theorem overMax_bound {r : Rq} {b : RunL} {n : Nat} (hc : chkR false r = 0) (h : allN (fun i => askV r (rAt b i) (rN b i)) n = true) : ∀ k, k ≤ n → 0 ≤ overMax r b k ∧ overMax r b k ≤ 72
  | 0, _ => by simp [overMax]
  | k + 1, hk => by
    have h1 := overMax_bound hc h k (by omega)
    have h2 := ask_at hc h (i := k) (by omega)
    rw [overMax, overAt, lenOf]
    omega

set_option maxHeartbeats 2000000 in
theorem Over_any (w : World) (r : Rq) (h : RqIn w r) (ba : Option Addr) (bn bc : Nat) (b : RunL) (hb : RunsIn w ba bn bc b) :
    Calls Try.prog 12 #[.agg #[.int .i64 r.queue, .int .i64 r.fr, .int .i64 r.un, .int .i64 r.kind, .slice r.pa r.pn r.pc], .slice ba bn bc] w fun e w' => e = .returned (.tuple #[.int .i64 (if overOk r b = true then overMax r b b.length else 0), .int .i64 (if overOk r b = true then 0 else 1)]) ∧ Below w.heap.size w w' := by
  have HN := hid hb.len
  have hle := hb.le
  have hcb := hb.capb
  have B1 := hid ((Below.refl w.heap.size w).alloc (Nat.le_refl _) (.cells #[.int .i64 r.queue, .int .i64 r.fr, .int .i64 r.un, .int .i64 r.kind, .slice r.pa r.pn r.pc] 37))
  have K1 := hid fun w1 (hb : Below w.heap.size w w1) => wrong_any w1 r (h.later hb)
  have KC := hid (box_cells w r)
  by_cases g1 : chkR false r = 0
  · have hx0 : decide (chkR false r ≠ 0) = false := by rw [g1]; rfl
    rw [hx0] at K1
    have HC0 := hid g1
    clear hx0 g1
    by_cases g2 : bn = 0
    · have ho := overOk_no (show overOk r b = false by rw [overOk, ← HN.out, g2]; simp)
      rw [ho.1, ho.2]
      clear ho
      subst g2
      go_enter Try.func12, Try.ntmps12
      go_wp2_with fail
      refine (K1.out _ B1.out).mono ?_
      rintro e w1 ⟨rfl, B2⟩
      have B3 := hid (below_from B1.out B2)
      clear B2
      go_wp2
      go_ret2
      exact ⟨rfl, B3.out⟩
    · have hpos : 0 < bn := by omega
      have g2' : ¬ (bn : Int) = 0 := by omega
      obtain ⟨bb, bo, rfl, hcc⟩ := hb.cells hpos
      have HCC := hid hcc
      clear hcc g2
      have KA : Hid (∀ w1, Below (w.alloc (.cells #[.int .i64 r.queue, .int .i64 r.fr, .int .i64 r.un, .int .i64 r.kind, .slice r.pa r.pn r.pc] 37)).heap.size (w.alloc (.cells #[.int .i64 r.queue, .int .i64 r.fr, .int .i64 r.un, .int .i64 r.kind, .slice r.pa r.pn r.pc] 37)) w1 → Calls Try.prog 40 #[.slice (some ⟨bb, bo, none⟩) bn bc, .func (.func 41) #[] #[.pointer (some ⟨w.heap.size, 0, none⟩)]] w1 fun e w' => e = .returned (.bool (!allN (fun i => askV r (rAt b i) (rN b i)) bn)) ∧ Below w1.heap.size w1 w') := fun w1 hw1 =>
        ContainsBs_any 41 #[.pointer (some ⟨w.heap.size, 0, none⟩)] (askV r) (fun args w => by go_simp) w1 _ bn bc b (hb.later (below_from B1.out hw1)) hpos
          (fun w' hw' x y => Over1_any w' r (h.later (below_from (below_from B1.out hw1) hw')) w.heap.size x y (by have := (below_from hw1 hw').size; simp at this; omega) (box_cells w r w' (below_from hw1 hw')))
      cases g3 : allN (fun i => askV r (rAt b i) (rN b i)) bn with
      | false =>
        have ho := overOk_no (show overOk r b = false by rw [overOk, askAll, ← HN.out, g3]; simp)
        rw [ho.1, ho.2]
        clear ho
        rw [g3] at KA
        go_enter Try.func12, Try.ntmps12
        go_wp2_with fail
        refine (K1.out _ B1.out).mono ?_
        rintro e w1 ⟨rfl, B2⟩
        have B2H := hid B2
        clear B2
        go_wp2_with fail
        refine (KA.out w1 B2H.out).mono ?_
        rintro e w2 ⟨rfl, B4⟩
        have B5 := hid (below_from B1.out (below_from B2H.out B4))
        clear B4
        go_wp2
        go_ret2
        exact ⟨rfl, B5.out⟩
      | true =>
        have ho := overOk_yes (show overOk r b = true by rw [overOk, askAll, ← HN.out, g3, HC0.out]; simp; exact hpos)
        rw [ho.1, ho.2, ← HN.out]
        clear ho
        have HG := hid g3
        rw [g3] at KA
        clear g3
        have KO := hid fun w1 (hb : Below w.heap.size w w1) p t => over_any w1 r (h.later hb) p t
        go_enter Try.func12, Try.ntmps12
        go_wp2_with fail
        refine (K1.out _ B1.out).mono ?_
        rintro e w1 ⟨rfl, B2⟩
        have B2H := hid B2
        clear B2
        go_wp2_with fail
        refine (KA.out w1 B2H.out).mono ?_
        rintro e w2 ⟨rfl, B4⟩
        have B5 := hid (below_from B2H.out B4)
        clear B4 B2H K1 KA
        go_wp2_with fail
        obtain ⟨W0, hW0⟩ : ∃ W0, W0 = w.alloc (.cells #[.int .i64 r.queue, .int .i64 r.fr, .int .i64 r.un, .int .i64 r.kind, .slice r.pa r.pn r.pc] 37) := ⟨_, rfl⟩
        rw [← hW0] at B5 KC B1
        clear hW0
        go_loopw [6, 21] (fun la st wr => ∃ j : Nat, st = .int .i64 j ∧ j ≤ bn ∧ la = .int .i64 (overMax r b j) ∧ Below W0.heap.size W0 wr) (fun _ st _ => bn - (intOf st).toNat)
        case atStart => exact ⟨0, rfl, by omega, rfl, B5.out⟩
        case round =>
          obtain ⟨j, rfl, hj, rfl, hbel⟩ := hrel
          have HB := hid hbel
          clear hbel
          by_cases hlt : j < bn
          · have hlt' : (j : Int) < bn := by omega
            have d0 := cell_later (below_from B1.out HB.out) (HCC.out j hlt).1
            have d1 := cell_later (below_from B1.out HB.out) (HCC.out j hlt).2
            have HAS := hid (ask_at HC0.out HG.out hlt)
            have HBel : Hid (Below W0.heap.size W0 (wr.alloc (.cells #[.int .i64 (rAt b j), .int .i64 (rN b j)] 83))) := HB.out.alloc HB.out.size _
            have hov : Hid (rN b j + rAt r.ps (rAt b j).toNat = overAt r b j) := rfl
            obtain ⟨c0, c1, c2, c3, c4⟩ := KC.out _ HBel.out
            obtain ⟨x, hx⟩ : ∃ x, overMax r b j = x := ⟨_, rfl⟩
            rw [hx]
            have HX := hid hx
            clear hx
            go_wp2_with fail
            refine (KO.out _ (below_from B1.out HBel.out) _ _ HAS.out.1 ⟨by have := HAS.out.2.1; omega, HAS.out.2.1.2⟩ HAS.out.2.2).mono ?_
            rintro e w3 ⟨rfl, B6⟩
            rw [hov.out]
            have HB6 := hid (below_from HBel.out B6)
            clear B6 c0 c1 c2 c3 c4 d0 d1
            obtain ⟨y, hy⟩ : ∃ y, overAt r b j = y := ⟨_, rfl⟩
            rw [hy]
            have HY := hid hy
            clear hy
            go_wp2
            all_goals
              go_roundw
              case rel => exact ⟨j + 1, by go_num, by omega, by rw [overMax, HX.out, HY.out]; congr 1; omega, HB6.out⟩
              case measure => simp [intOf]; omega
          · obtain rfl : j = bn := by omega
            go_wp2
            go_ret2
            exact ⟨rfl, below_from B1.out HB.out⟩
  · have ho := overOk_no (show overOk r b = false by rw [overOk, decide_eq_false g1]; rfl)
    rw [ho.1, ho.2]
    have hx0 : decide (chkR false r ≠ 0) = true := decide_eq_true g1
    rw [hx0] at K1
    clear hx0 g1 ho
    go_enter Try.func12, Try.ntmps12
    go_wp2_with fail
    refine (K1.out _ B1.out).mono ?_
    rintro e w1 ⟨rfl, B2⟩
    have B3 := hid (below_from B1.out B2)
    clear B2
    go_wp2
    go_ret2
    exact ⟨rfl, B3.out⟩
end Go.Proofs.Ytcgchicdmgllaad
