/- ask.Busy, ask.Left, ask.Soonest (and runs.Value): what they answer, whatever comes in. -/
import Derived.Test.YtcgchicdmgllaafBookF
import Derived.Test.YtcgchicdmgllaafPlanD
namespace Go.Proofs.Ytcgchicdmgllaaf
open Go.RowKit

theorem Value_any (w : World) (a : Option Addr) (n cap : Nat) (l : RunL) (t : Int) (h : RunsIn w a n cap l) :
   Calls Try.prog 6 #[.slice a n cap, .int .i64 t] w fun e w' => e = .returned (.tuple #[.int .i64 (valueR l t).1, .int .i64 (valueR l t).2]) ∧ Below w.heap.size w w' := by
  cases hf : fine l with
  | false =>
    have hv : valueR l t = (0, 1) := by simp [valueR, hf]
    have hk : chk l = 1 := by simp [chk, hf]
    rw [hv]
    go_enter Try.func6, Try.ntmps6
    go_wp2_with (go_at_call 13; refine (Check_any _ a n cap l h).mono ?_; rintro e w' ⟨rfl, hb⟩; rw [hk])
    go_ret2
    exact ⟨rfl, hb⟩
  | true =>
    have hk : chk l = 0 := by simp [chk, hf]
    cases ht : wth t 0 47 with
    | false =>
      have hv : valueR l t = (0, 3) := by simp [valueR, hf, ht]
      rw [hv]
      simp [wth] at ht
      have hd : t < 0 ∨ 0 ≤ t ∧ 48 ≤ t := by omega
      clear ht
      rcases hd with hd | ⟨hd, hd'⟩
      all_goals
        go_enter Try.func6, Try.ntmps6
        go_wp2_with (go_at_call 13; refine (Check_any _ a n cap l h).mono ?_; rintro e w' ⟨rfl, hb⟩; rw [hk])
        go_ret2
        exact ⟨rfl, hb⟩
    | true =>
      have hF := fine_iff.1 hf
      have hv : valueR l t = (valAt l t, 0) := by simp [valueR, hf, ht]
      rw [hv]
      simp [wth] at ht
      obtain ⟨ht0, ht1⟩ := ht
      have hnl := h.len
      have hp : 0 < n := by rw [hnl]; exact hF.1
      obtain ⟨b, off, rfl, hc⟩ := h.cells hp
      have HN : Hid (n = l.length) := hnl
      clear hnl
      have hle := h.le
      have hbd := h.bound
      have hcb := h.capb
      go_enter Try.func6, Try.ntmps6
      go_wp2_with (go_at_call 13; refine (Check_any _ _ n cap l h).mono ?_; rintro e w' ⟨rfl, hb⟩; rw [hk])
      refine (reach_any _ b off n cap l 0 t (h.later hb) hp).mono ?_
      rintro e w2 ⟨j, rfl, h1, h2, h3, h4, rfl⟩
      have cj := cell_later hb (hc j h2).2
      have hj' : (j : Int) < n := by omega
      have hr : Hid (Reached l t j) := ⟨by have := HN.out; omega, by
        by_cases e : 0 < j
        · exact h3 e
        · obtain rfl : j = 0 := by omega
          rw [hF.at0]; omega, fun h => h4 (by have := HN.out; omega)⟩
      clear h3 h4 hc
      go_wp2
      go_ret2
      rw [hr.out.val hF.rises]
      exact ⟨rfl, hb⟩

def busyR (c n : Int) (l : QL) (b : BL) (q t : Int) : Int × Int := if planE c n l b = 0 then (if 0 ≤ q ∧ q < l.length then valueR (takenTo l b b.length q.toNat) t else (0, 6)) else (0, planE c n l b)
def leftR (c n : Int) (l : QL) (b : BL) (q t : Int) : Int × Int := if planE c n l b = 0 then (if roomE l b q = 0 then valueR (roomR l b q) t else (0, roomE l b q)) else (0, planE c n l b)

set_option maxRecDepth 100000 in
set_option maxHeartbeats 2000000 in
theorem Busy_any (w : World) (c n : Int) (ta : Option Addr) (tn tc : Nat) (l : QL) (ba : Option Addr) (bn bc : Nat) (b : BL) (h : StIn w ta tn tc l ba bn bc b) (q t : Int) :
    Calls Try.prog 4 #[.agg #[.int .i64 c, .int .i64 n, .slice ta tn tc, .slice ba bn bc], .int .i64 q, .int .i64 t] w fun e w' => e = .returned (.tuple #[.int .i64 (busyR c n l b q t).1, .int .i64 (busyR c n l b q t).2]) ∧ Below w.heap.size w w' := by
  obtain ⟨S, hS⟩ : ∃ S, w.heap.size = S := ⟨_, rfl⟩
  obtain ⟨W1, hW1⟩ : ∃ W1, W1 = w.alloc (.cells #[.int .i64 c, .int .i64 n, .slice ta tn tc, .slice ba bn bc] 25) := ⟨_, rfl⟩
  have hb0 : Below w.heap.size w W1 := by rw [hW1]; exact (Below.refl _ _).alloc (Nat.le_refl _) _
  have x1 : StBox W1 S (.int .i64 c) (.int .i64 n) (.slice ta tn tc) (.slice ba bn bc) := by rw [hW1, ← hS]; exact StBox.new w _ _ _ _
  have K1 := CheckS_any W1 c n ta tn tc l ba bn bc b (h.later hb0)
  have HST := hid h
  have HX1 := hid x1
  have HB0 := hid hb0
  have HW1 := hid hW1
  have htl := h.1.len
  obtain ⟨c0, c1, c2, c3⟩ := x1.cells
  clear hb0 hW1 h x1
  by_cases he : planE c n l b = 0
  · have HSO := hid (sound_of he)
    rw [he] at K1
    have HK1 := hid K1
    have hmm : busyR c n l b q t = if 0 ≤ q ∧ q < l.length then valueR (takenTo l b b.length q.toNat) t else (0, 6) := if_pos he
    rw [hmm]
    have t5 : tn ≤ 5 := by have := (right_of HSO.out.clean.tree).five; omega
    clear K1 he hmm
    by_cases hq0 : q < 0
    · rw [if_neg (by omega)]
      clear htl
      go_enter Try.func4, Try.ntmps4
      go_wp2_with fail
      rw [← HW1.out]
      refine HK1.out.mono ?_
      rintro e w1 ⟨rfl, hb⟩
      have HB1 := hid (below_from HB0.out hb)
      clear hb c0 c1 c2 c3
      go_wp2
      go_ret2
      exact ⟨rfl, HB1.out⟩
    · by_cases hq1 : (tn : Int) ≤ q
      · rw [if_neg (by omega)]
        clear htl
        go_enter Try.func4, Try.ntmps4
        go_wp2_with fail
        rw [← HW1.out]
        refine HK1.out.mono ?_
        rintro e w1 ⟨rfl, hb⟩
        have HB1 := hid (below_from HB0.out hb)
        have HY1 := hid (HX1.out.later hb)
        clear hb c0 c1 c2 c3
        obtain ⟨c0, c1, c2, c3⟩ := HY1.out.cells
        go_wp2
        go_ret2
        exact ⟨rfl, HB1.out⟩
      · rw [if_pos (by omega)]
        obtain ⟨k, rfl⟩ : ∃ k : Nat, q = k := ⟨q.toNat, by omega⟩
        have hk : k < tn := by omega
        have hk' : (k : Int) < tn := by omega
        rw [Int.toNat_natCast]
        have KO := hid fun X (hX : Below w.heap.size w X) => Of_ok X ta tn tc l (HST.out.1.later hX) ba bn bc b (HST.out.2.later hX) (chkL_clean HSO.out.clean)
        obtain ⟨T, hT⟩ : ∃ T, takenTo l b b.length = T := ⟨_, rfl⟩
        rw [hT] at KO ⊢
        obtain ⟨x, hx⟩ : ∃ x, valueR (T k) t = x := ⟨_, rfl⟩
        have HXV := hid hx
        rw [hx]
        clear htl hq0 hT hx
        go_enter Try.func4, Try.ntmps4
        go_wp2_with fail
        rw [← HW1.out]
        refine HK1.out.mono ?_
        rintro e w1 ⟨rfl, hb⟩
        have HB1 := hid (below_from HB0.out hb)
        have HY1 := hid (HX1.out.later hb)
        clear hb c0 c1 c2 c3
        obtain ⟨c0, c1, c2, c3⟩ := HY1.out.cells
        go_wp2_with fail
        refine (KO.out w1 HB1.out).mono ?_
        rintro e w2 ⟨G, rfl, _, hq, hb⟩
        have HB2 := hid (below_from HB1.out hb)
        obtain ⟨fa, fm, fc, hcell, hrr⟩ := hq k hk
        have KV := Value_any w2 fa fm fc (T k) t hrr
        rw [HXV.out] at KV
        have HKV := hid KV
        clear hb hq hrr KV c0 c1 c2 c3
        go_wp2_with fail
        refine HKV.out.mono ?_
        rintro e w3 ⟨rfl, hb⟩
        have HB3 := hid (below_from HB2.out hb)
        clear hb
        go_wp2
        go_ret2
        exact ⟨rfl, HB3.out⟩
  · obtain ⟨er, her⟩ : ∃ er, planE c n l b = er := ⟨_, rfl⟩
    have ev : busyR c n l b q t = (0, er) := by unfold busyR; rw [if_neg he, her]
    rw [ev]
    rw [her] at K1 he
    have hne : (er != 0) = true := by simp [he]
    have HK1 := hid K1
    clear K1 he her ev htl
    go_enter Try.func4, Try.ntmps4
    go_wp2_with fail
    rw [← HW1.out]
    refine HK1.out.mono ?_
    rintro e w1 ⟨rfl, hb⟩
    have HB1 := hid (below_from HB0.out hb)
    clear hb c0 c1 c2 c3
    go_wp2
    go_ret2
    exact ⟨rfl, HB1.out⟩

set_option maxRecDepth 100000 in
set_option maxHeartbeats 2000000 in
theorem Left_any (w : World) (c n : Int) (ta : Option Addr) (tn tc : Nat) (l : QL) (ba : Option Addr) (bn bc : Nat) (b : BL) (h : StIn w ta tn tc l ba bn bc b) (q t : Int) :
    Calls Try.prog 5 #[.agg #[.int .i64 c, .int .i64 n, .slice ta tn tc, .slice ba bn bc], .int .i64 q, .int .i64 t] w fun e w' => e = .returned (.tuple #[.int .i64 (leftR c n l b q t).1, .int .i64 (leftR c n l b q t).2]) ∧ Below w.heap.size w w' := by
  obtain ⟨S, hS⟩ : ∃ S, w.heap.size = S := ⟨_, rfl⟩
  obtain ⟨W1, hW1⟩ : ∃ W1, W1 = w.alloc (.cells #[.int .i64 c, .int .i64 n, .slice ta tn tc, .slice ba bn bc] 25) := ⟨_, rfl⟩
  have hb0 : Below w.heap.size w W1 := by rw [hW1]; exact (Below.refl _ _).alloc (Nat.le_refl _) _
  have x1 : StBox W1 S (.int .i64 c) (.int .i64 n) (.slice ta tn tc) (.slice ba bn bc) := by rw [hW1, ← hS]; exact StBox.new w _ _ _ _
  have K1 := CheckS_any W1 c n ta tn tc l ba bn bc b (h.later hb0)
  have HST := hid h
  have HX1 := hid x1
  have HB0 := hid hb0
  have HW1 := hid hW1
  have htl := h.1.len
  obtain ⟨c0, c1, c2, c3⟩ := x1.cells
  clear hb0 hW1 h x1
  by_cases he : planE c n l b = 0
  · rw [he] at K1
    have HK1 := hid K1
    have hmm : leftR c n l b q t = if roomE l b q = 0 then valueR (roomR l b q) t else (0, roomE l b q) := if_pos he
    rw [hmm]
    have KO := hid fun X (hX : Below w.heap.size w X) => RoomOf_any X ta tn tc l (HST.out.1.later hX) ba bn bc b (HST.out.2.later hX) q
    clear K1 he hmm htl
    by_cases hr : roomE l b q = 0
    · rw [if_pos hr]
      rw [hr] at KO
      rw [if_pos rfl] at KO
      obtain ⟨T, hT⟩ : ∃ T, roomR l b q = T := ⟨_, rfl⟩
      rw [hT] at KO ⊢
      obtain ⟨x, hx⟩ : ∃ x, valueR T t = x := ⟨_, rfl⟩
      have HXV := hid hx
      rw [hx]
      clear hr hT hx
      go_enter Try.func5, Try.ntmps5
      go_wp2_with fail
      rw [← HW1.out]
      refine HK1.out.mono ?_
      rintro e w1 ⟨rfl, hb⟩
      have HB1 := hid (below_from HB0.out hb)
      have HY1 := hid (HX1.out.later hb)
      clear hb c0 c1 c2 c3
      obtain ⟨c0, c1, c2, c3⟩ := HY1.out.cells
      go_wp2_with fail
      refine (KO.out w1 HB1.out).mono ?_
      rintro e w2 ⟨fa, fm, fc, rfl, hrr, hb⟩
      have HB2 := hid (below_from HB1.out hb)
      have KV := Value_any w2 fa fm fc T t hrr
      rw [HXV.out] at KV
      have HKV := hid KV
      clear hb hrr KV c0 c1 c2 c3
      go_wp2_with fail
      refine HKV.out.mono ?_
      rintro e w3 ⟨rfl, hb⟩
      have HB3 := hid (below_from HB2.out hb)
      clear hb
      go_wp2
      go_ret2
      exact ⟨rfl, HB3.out⟩
    · rw [if_neg hr]
      rw [if_neg hr] at KO
      obtain ⟨E, hE⟩ : ∃ E, roomE l b q = E := ⟨_, rfl⟩
      rw [hE] at KO hr ⊢
      have hne : (E != 0) = true := by simp [hr]
      clear hr hE
      go_enter Try.func5, Try.ntmps5
      go_wp2_with fail
      rw [← HW1.out]
      refine HK1.out.mono ?_
      rintro e w1 ⟨rfl, hb⟩
      have HB1 := hid (below_from HB0.out hb)
      have HY1 := hid (HX1.out.later hb)
      clear hb c0 c1 c2 c3
      obtain ⟨c0, c1, c2, c3⟩ := HY1.out.cells
      go_wp2_with fail
      refine (KO.out w1 HB1.out).mono ?_
      rintro e w2 ⟨fa, fm, fc, rfl, hrr, hb⟩
      have HB2 := hid (below_from HB1.out hb)
      clear hb hrr c0 c1 c2 c3
      go_wp2
      go_ret2
      exact ⟨rfl, HB2.out⟩
  · obtain ⟨er, her⟩ : ∃ er, planE c n l b = er := ⟨_, rfl⟩
    have ev : leftR c n l b q t = (0, er) := by unfold leftR; rw [if_neg he, her]
    rw [ev]
    rw [her] at K1 he
    have hne : (er != 0) = true := by simp [he]
    have HK1 := hid K1
    clear K1 he her ev htl
    go_enter Try.func5, Try.ntmps5
    go_wp2_with fail
    rw [← HW1.out]
    refine HK1.out.mono ?_
    rintro e w1 ⟨rfl, hb⟩
    have HB1 := hid (below_from HB0.out hb)
    clear hb c0 c1 c2 c3
    go_wp2
    go_ret2
    exact ⟨rfl, HB1.out⟩

/-- the soonest of the first k bites, and of the first one -/
def lowAt (x : RunL) : Nat → Int
  | 0 => rN x 0
  | k + 1 => if rN x k < lowAt x k then rN x k else lowAt x k
theorem place_some {c n : Int} {l : QL} {b : BL} {r : Rq} (_h : seekE c n l b r = 0) (hp : (placeR l b r).2 = true) : 0 < (placeR l b r).1.length := by
  unfold placeR at hp ⊢
  by_cases er : roomE l b r.queue = 0
  · rw [if_pos er] at hp ⊢
    by_cases e0 : placeErr (roomR l b r.queue) r = 0
    · rw [if_pos e0] at hp ⊢
      obtain ⟨g1, _⟩ := find_good e0 (Prod.ext rfl hp)
      have h2 := (meets_split.1 g1).2.1
      have h3 := (chkR_zero.1 (meets_split.1 g1).1).2.1
      simp [wth] at h3
      have h4 : 0 < wantedN r := by unfold wantedN; split <;> omega
      have h5 : (0 : Int) < (findA r (roomR l b r.queue)).1.length := by rw [h2]; exact h4
      exact Int.ofNat_lt.1 h5
    · rw [if_neg e0] at hp; cases hp
  · rw [if_neg er] at hp; cases hp
set_option maxRecDepth 100000 in
set_option maxHeartbeats 2000000 in
theorem Soonest_wrong (w : World) (c n : Int) (ta : Option Addr) (tn tc : Nat) (l : QL) (ba : Option Addr) (bn bc : Nat) (b : BL) (h : StIn w ta tn tc l ba bn bc b) (r : Rq) (hr : RqIn w r) (hE : seekE c n l b r ≠ 0) :
    Calls Try.prog 7 #[.agg #[.int .i64 c, .int .i64 n, .slice ta tn tc, .slice ba bn bc], .agg #[.int .i64 r.queue, .int .i64 r.fr, .int .i64 r.un, .int .i64 r.kind, .slice r.pa r.pn r.pc]] w fun e w' => e = .returned (.tuple #[.int .i64 0, .bool false, .int .i64 (seekE c n l b r)]) ∧ Below w.heap.size w w' := by
  obtain ⟨S, hS⟩ : ∃ S, w.heap.size = S := ⟨_, rfl⟩
  obtain ⟨W1, hW1⟩ : ∃ W1, W1 = (w.alloc (.cells #[.int .i64 c, .int .i64 n, .slice ta tn tc, .slice ba bn bc] 25)).alloc (.cells #[.int .i64 r.queue, .int .i64 r.fr, .int .i64 r.un, .int .i64 r.kind, .slice r.pa r.pn r.pc] 28) := ⟨_, rfl⟩
  obtain ⟨x1, x2, hb0, _⟩ := two_boxes w _ _ _ _ r hW1
  rw [hS] at x1 x2
  have K1 := seekCheck_any W1 c n ta tn tc l ba bn bc b (h.later hb0) r (RqIn.later hr hb0)
  have HB0 := hid hb0
  have HW1 := hid hW1
  obtain ⟨c0, c1, c2, c3⟩ := x1.cells
  obtain ⟨d0, d1, d2, d3, d4⟩ := x2.cells
  clear hW1 x1 x2 hb0 h hr
  obtain ⟨E, hEE⟩ : ∃ E, seekE c n l b r = E := ⟨_, rfl⟩
  rw [hEE] at K1 hE ⊢
  have hne : (E != 0) = true := by simp [hE]
  have HK1 := hid K1
  clear K1 hEE hE
  go_enter Try.func7, Try.ntmps7
  go_wp2_with fail
  rw [← HW1.out]
  refine HK1.out.mono ?_
  rintro e w1 ⟨rfl, hb⟩
  have HB1 := hid (below_from HB0.out hb)
  clear hb c0 c1 c2 c3 d0 d1 d2 d3 d4
  go_wp2
  go_ret3
  exact ⟨rfl, HB1.out⟩
set_option maxRecDepth 100000 in
set_option maxHeartbeats 2000000 in
theorem Soonest_ok (w : World) (c n : Int) (ta : Option Addr) (tn tc : Nat) (l : QL) (ba : Option Addr) (bn bc : Nat) (b : BL) (h : StIn w ta tn tc l ba bn bc b) (r : Rq) (hr : RqIn w r) (hE : seekE c n l b r = 0) :
    Calls Try.prog 7 #[.agg #[.int .i64 c, .int .i64 n, .slice ta tn tc, .slice ba bn bc], .agg #[.int .i64 r.queue, .int .i64 r.fr, .int .i64 r.un, .int .i64 r.kind, .slice r.pa r.pn r.pc]] w fun e w' => e = .returned (.tuple #[.int .i64 (if (placeR l b r).2 = true then lowAt (placeR l b r).1 (placeR l b r).1.length else 0), .bool (placeR l b r).2, .int .i64 0]) ∧ Below w.heap.size w w' := by
  obtain ⟨S, hS⟩ : ∃ S, w.heap.size = S := ⟨_, rfl⟩
  obtain ⟨W1, hW1⟩ : ∃ W1, W1 = (w.alloc (.cells #[.int .i64 c, .int .i64 n, .slice ta tn tc, .slice ba bn bc] 25)).alloc (.cells #[.int .i64 r.queue, .int .i64 r.fr, .int .i64 r.un, .int .i64 r.kind, .slice r.pa r.pn r.pc] 28) := ⟨_, rfl⟩
  obtain ⟨x1, x2, hb0, _⟩ := two_boxes w _ _ _ _ r hW1
  rw [hS] at x1 x2
  have K1 := seekCheck_any W1 c n ta tn tc l ba bn bc b (h.later hb0) r (RqIn.later hr hb0)
  rw [hE] at K1
  have HK1 := hid K1
  have KP := hid fun X (hX : Below w.heap.size w X) => seekPlace_any X c n ta tn tc l ba bn bc b (h.later hX) r (RqIn.later hr hX)
  have HPS := hid (place_some hE)
  have HB0 := hid hb0
  have HW1 := hid hW1
  have HX1 := hid x1
  have HX2 := hid x2
  obtain ⟨c0, c1, c2, c3⟩ := x1.cells
  obtain ⟨d0, d1, d2, d3, d4⟩ := x2.cells
  clear hW1 x1 x2 hb0 h hr K1 hE
  obtain ⟨p, hp⟩ : ∃ p, placeR l b r = p := ⟨_, rfl⟩
  rw [hp] at KP HPS ⊢
  obtain ⟨x, f⟩ := p
  clear hp
  go_enter Try.func7, Try.ntmps7
  go_wp2_with fail
  rw [← HW1.out]
  refine HK1.out.mono ?_
  rintro e w1 ⟨rfl, hb⟩
  have HB1 := hid (below_from HB0.out hb)
  have HY1 := hid (HX1.out.later hb)
  have HY2 := hid (HX2.out.later hb)
  clear hb c0 c1 c2 c3 d0 d1 d2 d3 d4
  obtain ⟨c0, c1, c2, c3⟩ := HY1.out.cells
  obtain ⟨d0, d1, d2, d3, d4⟩ := HY2.out.cells
  go_wp2_with fail
  refine (KP.out w1 HB1.out).mono ?_
  rintro e w2 ⟨fa, m, fc, rfl, ⟨hrr, _⟩, hb⟩
  have HB2 := hid (below_from HB1.out hb)
  clear hb c0 c1 c2 c3 d0 d1 d2 d3 d4
  cases f with
  | false =>
    clear hrr HPS
    go_wp2
    go_ret3
    exact ⟨rfl, by rw [← hS]; exact HB2.out⟩
  | true =>
    have hml : m = x.length := hrr.len
    have hm0 : 0 < m := by have := HPS.out rfl; omega
    obtain ⟨bb, bo, rfl, hcs⟩ := hrr.cells hm0
    have hle := hrr.le
    have hbd := hrr.bound
    have hcb := hrr.capb
    have HML := hid hml
    have HRR := hid hrr
    have HCS := hid hcs
    have z1 := (hcs 0 hm0).2
    have hm0' : (0 : Int) < m := by omega
    clear hrr hml HPS hcs
    go_wp2
    go_loopw [10, 33] (fun y p wr => ∃ j : Nat, y = .int .i64 (lowAt x j) ∧ p = .int .i64 j ∧ j ≤ m ∧ Below w2.heap.size w2 wr) (fun _ p _ => m - (intOf p).toNat)
    case atStart => exact ⟨0, rfl, rfl, by omega, Below.refl _ _⟩
    case round =>
      obtain ⟨j, rfl, rfl, hj, hbel⟩ := hrel
      have HBE := hid hbel
      by_cases hlt : j < m
      · have hlt' : (j : Int) < m := by omega
        have y0 := cell_later hbel (HCS.out j hlt).1
        have y1 := cell_later hbel (HCS.out j hlt).2
        clear hbel
        go_wp2
        go_roundw
        case rel => exact ⟨j + 1, by first | rfl | (simp [lowAt]), by go_num, by omega, by first | exact HBE.out.alloc HBE.out.size _ | exact HBE.out⟩
        case measure => simp [intOf]; omega
      · obtain rfl : j = m := by omega
        clear hbel
        go_wp2
        go_ret3
        refine ⟨?_, by rw [← hS]; exact below_from HB2.out HBE.out⟩
        rw [HML.out]
        rfl
end Go.Proofs.Ytcgchicdmgllaaf
