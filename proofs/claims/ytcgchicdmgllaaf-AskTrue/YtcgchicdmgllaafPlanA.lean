/- Contracts of package plan: rising, over, Check, Find. -/
import Derived.Test.YtcgchicdmgllaafPlanM
import Derived.Test.YtcgchicdmgllaafBkA
namespace Go.Proofs.Ytcgchicdmgllaaf
open Go.RowKit

theorem st_cells (w : World) (c n : Int) (ta : Option Addr) (tn tc : Nat) (ba : Option Addr) (bn bc : Nat) : ∀ X : World, Below (w.alloc (.cells #[.int .i64 c, .int .i64 n, .slice ta tn tc, .slice ba bn bc] 25)).heap.size (w.alloc (.cells #[.int .i64 c, .int .i64 n, .slice ta tn tc, .slice ba bn bc] 25)) X →
    X.cell? ⟨w.heap.size, 0, none⟩ = some (.int .i64 c) ∧ X.cell? ⟨w.heap.size, 1, none⟩ = some (.int .i64 n) ∧ X.cell? ⟨w.heap.size, 2, none⟩ = some (.slice ta tn tc) ∧ X.cell? ⟨w.heap.size, 3, none⟩ = some (.slice ba bn bc) := by
  intro X hX
  refine ⟨?_, ?_, ?_, ?_⟩ <;> (refine cell_later hX ?_; go_simp)

set_option maxHeartbeats 1000000 in
theorem overB_any (w : World) (x : Bk) (hr : RqIn w x.rq) (hb : RunsIn w x.ba x.bn x.bc x.bs) (t : Int) :
    Calls Try.prog 23 #[.agg #[.int .i64 x.id, .int .i64 x.rq.queue, .int .i64 x.rq.fr, .int .i64 x.rq.un, .int .i64 x.rq.kind, .slice x.rq.pa x.rq.pn x.rq.pc, .slice x.ba x.bn x.bc], .int .i64 t] w fun e w' => e = .returned (.bool (decide (overV x ≤ t))) ∧ Below w.heap.size w w' := by
  have B1 := hid ((Below.refl w.heap.size w).alloc (Nat.le_refl _) (.cells #[.int .i64 x.id, .int .i64 x.rq.queue, .int .i64 x.rq.fr, .int .i64 x.rq.un, .int .i64 x.rq.kind, .slice x.rq.pa x.rq.pn x.rq.pc, .slice x.ba x.bn x.bc] 43))
  have K := Over_any _ x.rq (hr.later B1.out) x.ba x.bn x.bc x.bs (hb.later B1.out)
  rw [show (if overOk x.rq x.bs = true then overMax x.rq x.bs x.bs.length else 0) = overV x from rfl] at K
  obtain ⟨V, hV⟩ : ∃ V, overV x = V := ⟨_, rfl⟩
  obtain ⟨E, hE⟩ : ∃ E : Int, (if overOk x.rq x.bs = true then (0 : Int) else 1) = E := ⟨_, rfl⟩
  rw [hV, hE] at K
  rw [hV]
  have HK := hid K
  clear K hV hE hr hb
  go_enter Try.func23, Try.ntmps23
  go_wp2_with fail
  refine HK.out.mono ?_
  rintro e w1 ⟨rfl, h1⟩
  have HB := hid (below_from B1.out h1)
  clear h1
  go_wp2
  go_ret
  exact ⟨rfl, HB.out⟩
theorem late1_any (w : World) (x : Bk) (hr : RqIn w x.rq) (hb : RunsIn w x.ba x.bn x.bc x.bs) (B : Nat) (t : Int) (hB : w.cell? ⟨B, 0, none⟩ = some (.int .i64 t)) :
    Calls Try.prog 22 #[.agg #[.int .i64 x.id, .int .i64 x.rq.queue, .int .i64 x.rq.fr, .int .i64 x.rq.un, .int .i64 x.rq.kind, .slice x.rq.pa x.rq.pn x.rq.pc, .slice x.ba x.bn x.bc], .pointer (some ⟨B, 0, none⟩)] w fun e w' => e = .returned (.bool (decide (overV x ≤ t))) ∧ Below w.heap.size w w' := by
  have B1 := hid ((Below.refl w.heap.size w).alloc (Nat.le_refl _) (.cells #[.int .i64 x.id, .int .i64 x.rq.queue, .int .i64 x.rq.fr, .int .i64 x.rq.un, .int .i64 x.rq.kind, .slice x.rq.pa x.rq.pn x.rq.pc, .slice x.ba x.bn x.bc] 43))
  have K := overB_any _ x (hr.later B1.out) (hb.later B1.out) t
  obtain ⟨V, hV⟩ : ∃ V, decide (overV x ≤ t) = V := ⟨_, rfl⟩
  rw [hV] at K
  rw [hV]
  have K := hid K
  clear hV
  have c0 := cell_later ((Below.refl w.heap.size w).alloc (Nat.le_refl _) (.cells #[.int .i64 x.id, .int .i64 x.rq.queue, .int .i64 x.rq.fr, .int .i64 x.rq.un, .int .i64 x.rq.kind, .slice x.rq.pa x.rq.pn x.rq.pc, .slice x.ba x.bn x.bc] 43)) hB
  clear hr hb hB
  go_enter Try.func22, Try.ntmps22
  go_wp2_with fail
  refine K.out.mono ?_
  rintro e w1 ⟨rfl, h1⟩
  have HB := hid (below_from B1.out h1)
  clear h1
  go_wp2
  go_ret
  exact ⟨rfl, HB.out⟩

set_option maxHeartbeats 1000000 in
theorem rising_any (w : World) (a : Option Addr) (n cap : Nat) (b : BL) (h : BksIn w a n cap b) (next : Int) (hn : next ≤ 1048576) :
    Calls Try.prog 20 #[.slice a n cap, .int .i64 next] w fun e w' => e = .returned (.bool (risB b next)) ∧ Below w.heap.size w w' := by
  have HN := hid h.len
  have hle := h.le
  have hbd := h.capb
  have HC := hid h.cells
  clear h
  go_enter Try.func20, Try.ntmps20
  go_wp2
  go_loopw [5, 7, 10] (fun p _ st wr => ∃ k : Nat, st = .int .i64 k ∧ k ≤ n ∧ p = .int .i64 (leastId b k) ∧ 0 ≤ leastId b k ∧ allN (idOk b next) k = true ∧ Below w.heap.size w wr) (fun _ _ st _ => n - (intOf st).toNat)
  case atStart => exact ⟨0, rfl, by omega, rfl, by simp [leastId], rfl, Below.refl _ _⟩
  case round =>
    obtain ⟨j, rfl, hj, rfl, hl0, hall, hbel⟩ := hrel
    have HA := hid hall
    have HB := hid hbel
    clear hall hbel
    by_cases hlt : j < n
    · have hlt' : (j : Int) < n := by omega
      obtain ⟨bb, off, rfl, hc⟩ := HC.out (by omega)
      obtain ⟨c0, c1, c2, c3, c4, c5, c6⟩ := hc j hlt
      replace c0 := cell_later HB.out c0
      replace c1 := cell_later HB.out c1
      replace c2 := cell_later HB.out c2
      replace c3 := cell_later HB.out c3
      replace c4 := cell_later HB.out c4
      replace c5 := cell_later HB.out c5
      replace c6 := cell_later HB.out c6
      clear hc
      have hok : idOk b next j = decide (leastId b j ≤ (bk b j).id ∧ (bk b j).id < next) := rfl
      have hnx : leastId b (j + 1) = (bk b j).id + 1 := by unfold leastId; rw [if_neg (by omega)]; rfl
      obtain ⟨X, hX⟩ : ∃ X, bk b j = X := ⟨_, rfl⟩
      rw [hX] at c0 c1 c2 c3 c4 c5 c6 hok hnx
      obtain ⟨L, hL⟩ : ∃ L, leastId b j = L := ⟨_, rfl⟩
      rw [hL] at hok hl0 ⊢
      have HOK := hid hok
      have HNX := hid hnx
      have hbe : Below w.heap.size w (wr.alloc (.cells #[.int .i64 X.id, .int .i64 X.rq.queue, .int .i64 X.rq.fr, .int .i64 X.rq.un, .int .i64 X.rq.kind, .slice X.rq.pa X.rq.pn X.rq.pc, .slice X.ba X.bn X.bc] 43)) := HB.out.alloc HB.out.size _
      have HBE := hid hbe
      clear hX hL hok hnx hbe
      by_cases g1 : X.id < L
      · go_wp2
        go_ret
        refine ⟨ret_bool ?_, HBE.out⟩
        show false = allN (idOk b next) b.length
        rw [← HN.out, allN_false (p := idOk b next) (k := j) (by rw [HOK.out]; exact decide_eq_false (by omega)) n hlt]
      · by_cases g2 : next ≤ X.id
        · go_wp2
          go_ret
          refine ⟨ret_bool ?_, HBE.out⟩
          show false = allN (idOk b next) b.length
          rw [← HN.out, allN_false (p := idOk b next) (k := j) (by rw [HOK.out]; exact decide_eq_false (by omega)) n hlt]
        · go_wp2
          go_roundw
          case rel => exact ⟨j + 1, by go_num, by omega, by first | (rw [HNX.out]; done) | (rw [HNX.out]; go_num), by rw [HNX.out]; omega, by rw [allN, HA.out, HOK.out]; simp; omega, HBE.out⟩
          case measure => simp [intOf]; omega
    · obtain rfl : j = n := by omega
      go_wp2
      go_ret
      exact ⟨ret_bool (by show true = allN (idOk b next) b.length; rw [← HN.out]; exact HA.out.symm), HB.out⟩

/-- the state in memory -/
def StIn (w : World) (ta : Option Addr) (tn tc : Nat) (l : QL) (ba : Option Addr) (bn bc : Nat) (b : BL) : Prop := QsIn w ta tn tc l ∧ BksIn w ba bn bc b
theorem StIn.later {w w' : World} {ta : Option Addr} {tn tc : Nat} {l : QL} {ba : Option Addr} {bn bc : Nat} {b : BL} (h : StIn w ta tn tc l ba bn bc b) (hb : Below w.heap.size w w') : StIn w' ta tn tc l ba bn bc b := ⟨h.1.later hb, h.2.later hb⟩

set_option maxRecDepth 100000 in
set_option maxHeartbeats 2000000 in
theorem CheckS_any (w : World) (c n : Int) (ta : Option Addr) (tn tc : Nat) (l : QL) (ba : Option Addr) (bn bc : Nat) (b : BL) (h : StIn w ta tn tc l ba bn bc b) :
    Calls Try.prog 10 #[.agg #[.int .i64 c, .int .i64 n, .slice ta tn tc, .slice ba bn bc]] w fun e w' => e = .returned (.int .i64 (planE c n l b)) ∧ Below w.heap.size w w' := by
  have B1 := hid ((Below.refl w.heap.size w).alloc (Nat.le_refl _) (.cells #[.int .i64 c, .int .i64 n, .slice ta tn tc, .slice ba bn bc] 25))
  have KS := hid (st_cells w c n ta tn tc ba bn bc)
  have K1 := Of_any _ ta tn tc l (h.1.later B1.out) ba bn bc b (h.2.later B1.out)
  have HL := hid h.1
  have HBK := hid h.2
  clear h
  by_cases h1 : chkL l b = 0
  · have hC := hid (clean_of h1)
    have hE : planE c n l b = if (0 ≤ c ∧ c ≤ 48) ∧ (0 ≤ n ∧ n ≤ 1048576) then (if risB b n = true then (if lateB b c = true then 9 else (if fitsR l b c = true then 0 else 10)) else 1) else 3 := if_pos h1
    rw [hE]
    rw [h1] at K1
    have HK1 := hid K1
    clear h1 hE K1
    by_cases h2 : (0 ≤ c ∧ c ≤ 48) ∧ (0 ≤ n ∧ n ≤ 1048576)
    · rw [if_pos h2]
      obtain ⟨⟨c0, c48⟩, n0, n1⟩ := h2
      have hc0 : ¬ c < 0 := by omega
      have hc1 : ¬ (48 : Int) < c := by omega
      have hn0 : ¬ n < 0 := by omega
      have hn1 : ¬ (1048576 : Int) < n := by omega
      have KR := hid fun X (hX : Below w.heap.size w X) => rising_any X ba bn bc b (HBK.out.later hX) n n1
      have KC := hid fun X (hX : Below w.heap.size w X) (cl : X.cell? ⟨w.heap.size, 0, none⟩ = some (.int .i64 c)) =>
        ContainsBk_any 22 #[.pointer (some ⟨w.heap.size, 0, none⟩)] (fun x => !decide (overV x ≤ c)) (fun args w => by go_simp) X ba bn bc b (HBK.out.later hX)
          (fun w' hw' x hr hbs => (late1_any w' x hr hbs w.heap.size c (cell_later hw' cl)).mono fun r w'' q => ⟨by rw [q.1]; simp, q.2⟩)
      have KF := hid fun X (hX : Below w.heap.size w X) => Fits_any X ta tn tc l (HL.out.later hX) ba bn bc b (HBK.out.later hX) c
      rw [HBK.out.len, show (!allN (fun i => (fun x => !decide (overV x ≤ c)) (bk b i)) b.length) = lateB b c from rfl] at KC
      rw [← HBK.out.len] at KC
      rw [fitsE_ok hC.out c0 c48] at KF
      obtain ⟨R, hR⟩ : ∃ R, risB b n = R := ⟨_, rfl⟩
      obtain ⟨L, hL⟩ : ∃ L, lateB b c = L := ⟨_, rfl⟩
      obtain ⟨F, hF⟩ : ∃ F, fitsR l b c = F := ⟨_, rfl⟩
      rw [hR] at KR
      rw [hL] at KC
      rw [hF] at KF
      rw [hR, hL, hF]
      clear hR hL hF c0 c48 n0 n1
      go_enter Try.func10, Try.ntmps10
      go_wp2_with fail
      refine HK1.out.mono ?_
      rintro e w1 ⟨a1, m1, k1, rfl, _, _, hb⟩
      obtain ⟨d0, d1, d2, d3⟩ := KS.out w1 hb
      have HB1 := hid (below_from B1.out hb)
      have HB1' := hid hb
      clear hb
      go_wp2_with fail
      refine (KR.out w1 HB1.out).mono ?_
      rintro e w2 ⟨rfl, hb⟩
      obtain ⟨e0, e1, e2, e3⟩ := KS.out w2 (below_from HB1'.out hb)
      have HB2 := hid (below_from HB1.out hb)
      have HB2' := hid (below_from HB1'.out hb)
      clear hb d0 d1 d2 d3
      cases R with
      | false =>
        go_wp2
        go_ret
        exact ⟨rfl, HB2.out⟩
      | true =>
        go_wp2_with fail
        refine (KC.out w2 HB2.out e0).mono ?_
        rintro e w3 ⟨rfl, hb⟩
        obtain ⟨f0, f1, f2, f3⟩ := KS.out w3 (below_from HB2'.out hb)
        have HB3 := hid (below_from HB2.out hb)
        clear hb e0 e1 e2 e3
        cases L with
        | true =>
          go_wp2
          go_ret
          exact ⟨rfl, HB3.out⟩
        | false =>
          go_wp2_with fail
          refine (KF.out w3 HB3.out).mono ?_
          rintro e w4 ⟨rfl, hb⟩
          have HB4 := hid (below_from HB3.out hb)
          clear hb f0 f1 f2 f3
          cases F
          all_goals
            go_wp2
            go_ret
            exact ⟨rfl, HB4.out⟩
    · rw [if_neg h2]
      go_enter Try.func10, Try.ntmps10
      go_wp2_with fail
      refine HK1.out.mono ?_
      rintro e w1 ⟨a1, m1, k1, rfl, _, _, hb⟩
      obtain ⟨d0, d1, d2, d3⟩ := KS.out w1 hb
      have HB1 := hid (below_from B1.out hb)
      clear hb
      by_cases g1 : c < 0
      · go_wp2
        go_ret
        exact ⟨rfl, HB1.out⟩
      · by_cases g2 : (48 : Int) < c
        · go_wp2
          go_ret
          exact ⟨rfl, HB1.out⟩
        · by_cases g3 : n < 0
          · go_wp2
            go_ret
            exact ⟨rfl, HB1.out⟩
          · have g4 : (1048576 : Int) < n := by omega
            go_wp2
            go_ret
            exact ⟨rfl, HB1.out⟩
  · have hE : planE c n l b = chkL l b := if_neg h1
    rw [hE]
    obtain ⟨er, her⟩ : ∃ er, chkL l b = er := ⟨_, rfl⟩
    rw [her] at K1 h1
    rw [her]
    have hne : (er != 0) = true := by simp [h1]
    have HK1 := hid K1
    clear hE K1 h1 her
    go_enter Try.func10, Try.ntmps10
    go_wp2_with fail
    refine HK1.out.mono ?_
    rintro e w1 ⟨a1, m1, k1, rfl, _, _, hb⟩
    have HB1 := hid (below_from B1.out hb)
    clear hb
    go_wp2
    go_ret
    exact ⟨rfl, HB1.out⟩
end Go.Proofs.Ytcgchicdmgllaaf
