/- Contracts of Plus, Minus, Lesser and Bump: what is laid together says at each time what is made of both, or the error that the document names first. -/
import Derived.Test.YtcgchicdmgllaadRunsC
namespace Go.Proofs.Ytcgchicdmgllaad
open Go.RowKit

theorem checkBoth_any (w : World) (a1 a2 : Option Addr) (n1 n2 cap1 cap2 : Nat) (l1 l2 : RunL) (h1 : RunsIn w a1 n1 cap1 l1) (h2 : RunsIn w a2 n2 cap2 l2) :
   Calls Try.prog 65 #[.slice a1 n1 cap1, .slice a2 n2 cap2] w fun e w' => e = .returned (.int .i64 (if (fine l1 && fine l2) = true then 0 else 1)) ∧ Below w.heap.size w w' := by
  cases hf : fine l1 with
  | false =>
    have hk : chk l1 = 1 := by simp [chk, hf]
    rw [Bool.false_and, if_neg (by decide)]
    go_enter Try.func65, Try.ntmps65
    go_wp2_with fail
    refine (Check_any _ a1 n1 cap1 l1 h1).mono ?_
    rintro e w1 ⟨rfl, hb⟩
    rw [hk]
    go_wp2
    go_ret
    exact ⟨rfl, hb⟩
  | true =>
    have hk : chk l1 = 0 := by simp [chk, hf]
    have he : (if (true && fine l2) = true then (0 : Int) else 1) = chk l2 := by simp [chk]
    rw [he]
    go_enter Try.func65, Try.ntmps65
    go_wp2_with fail
    refine (Check_any _ a1 n1 cap1 l1 h1).mono ?_
    rintro e w1 ⟨rfl, hb⟩
    rw [hk]
    go_wp2_with fail
    refine (Check_any _ a2 n2 cap2 l2 (h2.later hb)).mono ?_
    rintro e w2 ⟨rfl, hb2⟩
    go_wp2
    go_ret
    exact ⟨rfl, below_from hb hb2⟩

/-- a table as runs, or ErrMany -/
def tell (f : Nat → Int) : RunL × Int := if allTo f 48 = true then (foldTo f 48, 0) else ([], 2)
/-- two right runs laid together, or the first error -/
def joinR (jn : Int → Int → Int) (l1 l2 : RunL) : RunL × Int := if (fine l1 && fine l2) = true then tell (jv jn l1 l2) else ([], 1)
/-- a call has answered runs and an error's number, in new memory -/
def Gives (w w' : World) (e : Ending) (r : RunL × Int) : Prop := ∃ a n cap, e = .returned (.tuple #[.slice a n cap, .int .i64 r.2]) ∧ RunsIn w' a n cap r.1 ∧ Below w.heap.size w w'

theorem runsIn_nil (w : World) : RunsIn w none 0 0 [] := ⟨rfl, Nat.le_refl _, by simp, by simp, fun h => by simp at h⟩
theorem runs_lit (w : World) (l : RunL) (c : Array Value) (n : Nat) (hc : c.toList = cellsOf l) (hn : n = l.length) (hb : l.length ≤ 48) : RunsIn (w.alloc (.cells c 70)) (some ⟨w.heap.size, 0, none⟩) n n l := by
  refine ⟨hn, Nat.le_refl _, by omega, by omega, fun _ => ⟨w.heap.size, 0, rfl, fun i hi => ?_⟩⟩
  rw [World.cell?_alloc_at _ _ _ _ rfl, World.cell?_alloc_at _ _ _ _ rfl]
  have h1 := cellsOf_even l i (by omega)
  have h2 := cellsOf_odd l i (by omega)
  rw [← hc] at h1 h2
  simp only [Array.getElem?_toList] at h1 h2
  rw [Nat.zero_add]
  exact ⟨h1, h2⟩
theorem gives_err {w w' : World} {er : Int} (hb : Below w.heap.size w w') : Gives w w' (.returned (.tuple #[.slice none 0 0, .int .i64 er])) ([], er) := ⟨none, 0, 0, rfl, runsIn_nil _, hb⟩

theorem JoinsBy.of {k : Nat} {jn : Int → Int → Int} (hf : ∀ (args : Array Value) (w : World), (callFunc k args).run Try.prog w = .ok (.enter k args) w)
    (h : ∀ (x y : Int) (w : World), -1048576 ≤ x → x ≤ 1048576 → -1048576 ≤ y → y ≤ 1048576 → Calls Try.prog k #[.int .i64 x, .int .i64 y] w fun e w' => e = .returned (.int .i64 (jn x y)) ∧ w' = w) : JoinsBy k jn :=
  ⟨hf, fun x y w hx hy => h x y w (bdd_iff.1 hx).1 (bdd_iff.1 hx).2 (bdd_iff.1 hy).1 (bdd_iff.1 hy).2⟩

theorem joins48 : JoinsBy 67 (fun x y => x - y) := by
  refine JoinsBy.of (fun args w => by go_simp) fun x y w h1 h2 h3 h4 => ?_
  go_enter Try.func67, Try.ntmps67
  go_wp2
  go_ret
  exact ⟨rfl, rfl⟩
theorem joins49 : JoinsBy 68 (fun x y => min x y) := by
  refine JoinsBy.of (fun args w => by go_simp) fun x y w h1 h2 h3 h4 => ?_
  go_enter Try.func68, Try.ntmps68
  go_wp2
  all_goals
    go_ret
    exact ⟨ret_int (by omega), rfl⟩
theorem joins54 : JoinsBy 78 (fun x y => x + y) := by
  refine JoinsBy.of (fun args w => by go_simp) fun x y w h1 h2 h3 h4 => ?_
  go_enter Try.func78, Try.ntmps78
  go_wp2
  go_ret
  exact ⟨rfl, rfl⟩

theorem lay_gives (k : Nat) (jn : Int → Int → Int) (hj : JoinsBy k jn) (w : World) (a1 a2 : Option Addr) (n1 cap1 n2 cap2 : Nat) (l1 l2 : RunL) (h1 : RunsIn w a1 n1 cap1 l1) (h2 : RunsIn w a2 n2 cap2 l2)
   (r1 : Rises l1) (r2 : Rises l2) (d1 : ∀ i, i < n1 → bdd (rN l1 i) = true) (d2 : ∀ i, i < n2 → bdd (rN l2 i) = true) :
   Calls Try.prog 66 #[.slice a1 n1 cap1, .slice a2 n2 cap2, .func (.func k) #[] #[]] w fun e w' => Gives w w' e (tell (jv jn l1 l2)) := by
  have p1 : 0 < n1 := by rw [h1.len]; exact r1.1
  have p2 : 0 < n2 := by rw [h2.len]; exact r2.1
  obtain ⟨b1, o1, rfl, _⟩ := h1.cells p1
  obtain ⟨b2, o2, rfl, _⟩ := h2.cells p2
  refine (lay_any k jn hj w b1 o1 n1 cap1 b2 o2 n2 cap2 l1 l2 h1 h2 r1 r2 d1 d2).mono ?_
  rintro e w' (⟨ha, v, rfl, ho, hb⟩ | ⟨ha, rfl, hb⟩)
  · obtain ⟨a, cap, rfl, hr, _⟩ := ho.parts (foldTo_len _ 48)
    have : tell (jv jn l1 l2) = (foldTo (jv jn l1 l2) 48, 0) := by simp [tell, ha]
    rw [this]
    exact ⟨a, _, cap, rfl, hr, hb⟩
  · have : tell (jv jn l1 l2) = ([], 2) := by simp [tell, ha]
    rw [this]
    exact gives_err hb

theorem Gives.from {w w1 w2 : World} {e : Ending} {r : RunL × Int} (hb : Below w.heap.size w w1) (h : Gives w1 w2 e r) : Gives w w2 e r := by
  obtain ⟨a, n, cap, he, hr, hb2⟩ := h
  exact ⟨a, n, cap, he, hr, below_from hb hb2⟩

theorem Minus_any (w : World) (a1 a2 : Option Addr) (n1 n2 cap1 cap2 : Nat) (l1 l2 : RunL) (h1 : RunsIn w a1 n1 cap1 l1) (h2 : RunsIn w a2 n2 cap2 l2) :
   Calls Try.prog 34 #[.slice a1 n1 cap1, .slice a2 n2 cap2] w fun e w' => Gives w w' e (joinR (fun x y => x - y) l1 l2) := by
  cases hf : (fine l1 && fine l2) with
  | false =>
    have hr : joinR (fun x y => x - y) l1 l2 = ([], 1) := by simp only [joinR, hf]; rfl
    rw [hr]
    have hk : (if (fine l1 && fine l2) = true then (0 : Int) else 1) = 1 := by rw [hf]; rfl
    go_enter Try.func34, Try.ntmps34
    go_wp2_with fail
    refine (checkBoth_any _ _ _ _ _ _ _ l1 l2 h1 h2).mono ?_
    rintro e w1 ⟨rfl, hb⟩
    rw [hk]
    go_wp2
    go_ret2
    exact gives_err hb
  | true =>
    have hr : joinR (fun x y => x - y) l1 l2 = tell (jv (fun x y => x - y) l1 l2) := by simp only [joinR, hf]; rfl
    rw [hr]
    have hk : (if (fine l1 && fine l2) = true then (0 : Int) else 1) = 0 := by rw [hf]; rfl
    rw [Bool.and_eq_true] at hf
    have F1 := hid (fine_iff.1 hf.1)
    have F2 := hid (fine_iff.1 hf.2)
    obtain ⟨r, hr2⟩ : ∃ r, r = tell (jv (fun x y => x - y) l1 l2) := ⟨_, rfl⟩
    rw [← hr2]
    have HR := hid hr2
    clear hr2 hr hf
    go_enter Try.func34, Try.ntmps34
    go_wp2_with fail
    refine (checkBoth_any _ _ _ _ _ _ _ l1 l2 h1 h2).mono ?_
    rintro e w1 ⟨rfl, hb⟩
    rw [hk]
    go_wp2_with fail
    have hl := lay_gives 67 _ joins48 w1 a1 a2 n1 cap1 n2 cap2 l1 l2 (h1.later hb) (h2.later hb) F1.out.rises F2.out.rises (fun i hi => F1.out.bdd (by rw [← h1.len]; exact hi)) (fun i hi => F2.out.bdd (by rw [← h2.len]; exact hi))
    rw [← HR.out] at hl
    refine hl.mono ?_
    clear hl
    rintro e w2 ⟨a, n, cap, rfl, hr, hb2⟩
    go_wp2
    go_ret2
    exact ⟨a, n, cap, rfl, hr, below_from hb hb2⟩

theorem Lesser_any (w : World) (a1 a2 : Option Addr) (n1 n2 cap1 cap2 : Nat) (l1 l2 : RunL) (h1 : RunsIn w a1 n1 cap1 l1) (h2 : RunsIn w a2 n2 cap2 l2) :
   Calls Try.prog 35 #[.slice a1 n1 cap1, .slice a2 n2 cap2] w fun e w' => Gives w w' e (joinR (fun x y => min x y) l1 l2) := by
  cases hf : (fine l1 && fine l2) with
  | false =>
    have hr : joinR (fun x y => min x y) l1 l2 = ([], 1) := by simp only [joinR, hf]; rfl
    rw [hr]
    have hk : (if (fine l1 && fine l2) = true then (0 : Int) else 1) = 1 := by rw [hf]; rfl
    go_enter Try.func35, Try.ntmps35
    go_wp2_with fail
    refine (checkBoth_any _ _ _ _ _ _ _ l1 l2 h1 h2).mono ?_
    rintro e w1 ⟨rfl, hb⟩
    rw [hk]
    go_wp2
    go_ret2
    exact gives_err hb
  | true =>
    have hr : joinR (fun x y => min x y) l1 l2 = tell (jv (fun x y => min x y) l1 l2) := by simp only [joinR, hf]; rfl
    rw [hr]
    have hk : (if (fine l1 && fine l2) = true then (0 : Int) else 1) = 0 := by rw [hf]; rfl
    rw [Bool.and_eq_true] at hf
    have F1 := hid (fine_iff.1 hf.1)
    have F2 := hid (fine_iff.1 hf.2)
    obtain ⟨r, hr2⟩ : ∃ r, r = tell (jv (fun x y => min x y) l1 l2) := ⟨_, rfl⟩
    rw [← hr2]
    have HR := hid hr2
    clear hr2 hr hf
    go_enter Try.func35, Try.ntmps35
    go_wp2_with fail
    refine (checkBoth_any _ _ _ _ _ _ _ l1 l2 h1 h2).mono ?_
    rintro e w1 ⟨rfl, hb⟩
    rw [hk]
    go_wp2_with fail
    have hl := lay_gives 68 _ joins49 w1 a1 a2 n1 cap1 n2 cap2 l1 l2 (h1.later hb) (h2.later hb) F1.out.rises F2.out.rises (fun i hi => F1.out.bdd (by rw [← h1.len]; exact hi)) (fun i hi => F2.out.bdd (by rw [← h2.len]; exact hi))
    rw [← HR.out] at hl
    refine hl.mono ?_
    clear hl
    rintro e w2 ⟨a, n, cap, rfl, hr, hb2⟩
    go_wp2
    go_ret2
    exact ⟨a, n, cap, rfl, hr, below_from hb hb2⟩

/-- n more from a to b: what Bump says -/
def bumpV (l : RunL) (a b n : Int) (t : Nat) : Int := if a ≤ t ∧ (t : Int) < b then vals l t + n else vals l t
def bumpR (l : RunL) (a b n : Int) : RunL × Int := if fine l = true then (if (spn a b && bdd n) = true then tell (bumpV l a b n) else ([], 3)) else ([], 1)

theorem more_rises {a b n : Int} (h0 : 0 ≤ a) (h1 : a < b) : Rises [(0, 0), (a, n), (b, 0)] := by
  refine ⟨by simp, rfl, fun i hi => ?_⟩
  simp at hi
  match i, hi with
  | 0, _ => simpa [rAt] using h0
  | 1, _ => simp [rAt]; omega
theorem more_val {a b n : Int} (t : Nat) : vals [(0, 0), (a, n), (b, 0)] t = if b ≤ t then 0 else if a ≤ t then n else 0 := by
  have e1 : rAt [(0, 0), (a, n), (b, 0)] 2 = b := rfl
  have e2 : rAt [(0, 0), (a, n), (b, 0)] 1 = a := rfl
  show rN [(0, 0), (a, n), (b, 0)] (if rAt [(0, 0), (a, n), (b, 0)] 2 ≤ (t : Int) then 2 else if rAt [(0, 0), (a, n), (b, 0)] 1 ≤ (t : Int) then 1 else 0) = _
  rw [e1, e2]
  by_cases g1 : b ≤ (t : Int)
  · rw [if_pos g1, if_pos g1]; rfl
  · rw [if_neg g1, if_neg g1]
    by_cases g2 : a ≤ (t : Int)
    · rw [if_pos g2, if_pos g2]; rfl
    · rw [if_neg g2, if_neg g2]; rfl
theorem bump_tell {l : RunL} {a b n : Int} : tell (jv (fun x y => x + y) l [(0, 0), (a, n), (b, 0)]) = tell (bumpV l a b n) := by
  have he : ∀ t, jv (fun x y => x + y) l [(0, 0), (a, n), (b, 0)] t = bumpV l a b n t := by
    intro t
    simp only [jv, more_val, bumpV]
    split
    · rw [if_neg (by omega)]; omega
    · split
      · rw [if_pos (by omega)]
      · rw [if_neg (by omega)]; omega
  simp only [tell]
  rw [allTo_congr 48 (fun t _ => he t), foldTo_congr 48 (fun t _ => he t)]

set_option maxHeartbeats 400000 in
theorem Bump_any (w : World) (a0 : Option Addr) (n0 cap0 : Nat) (l : RunL) (a b n : Int) (h : RunsIn w a0 n0 cap0 l) :
   Calls Try.prog 55 #[.slice a0 n0 cap0, .int .i64 a, .int .i64 b, .int .i64 n] w fun e w' => Gives w w' e (bumpR l a b n) := by
  cases hf : fine l with
  | false =>
    have hr : bumpR l a b n = ([], 1) := by simp [bumpR, hf]
    rw [hr]
    have hk : chk l = 1 := by simp [chk, hf]
    go_enter Try.func55, Try.ntmps55
    go_wp2_with fail
    refine (Check_any _ _ _ _ l h).mono ?_
    rintro e w1 ⟨rfl, hb⟩
    rw [hk]
    go_wp2
    go_ret2
    exact gives_err hb
  | true =>
    have hk : chk l = 0 := by simp [chk, hf]
    cases hs : spn a b with
    | false =>
      have hr : bumpR l a b n = ([], 3) := by simp [bumpR, hf, hs]
      rw [hr]
      go_enter Try.func55, Try.ntmps55
      go_wp2_with fail
      refine (Check_any _ _ _ _ l h).mono ?_
      rintro e w1 ⟨rfl, hb⟩
      rw [hk]
      go_wp2_with (go_at_call 37; refine (span_any _ _ _).mono ?_; rintro e w' ⟨rfl, rfl⟩; rw [hs])
      go_ret2
      exact gives_err hb
    | true =>
      cases hn : bdd n with
      | false =>
        have hr : bumpR l a b n = ([], 3) := by simp [bumpR, hf, hn]
        rw [hr]
        go_enter Try.func55, Try.ntmps55
        go_wp2_with fail
        refine (Check_any _ _ _ _ l h).mono ?_
        rintro e w1 ⟨rfl, hb⟩
        rw [hk]
        go_wp2_with (first | (go_at_call 37; refine (span_any _ _ _).mono ?_; rintro e w' ⟨rfl, rfl⟩; rw [hs]) | (go_at_call 69; refine (bounded_any _ _).mono ?_; rintro e w' ⟨rfl, rfl⟩; rw [hn]))
        go_ret2
        exact gives_err hb
      | true =>
        have hsp := of_decide_eq_true hs
        have hr : bumpR l a b n = tell (jv (fun x y => x + y) l [(0, 0), (a, n), (b, 0)]) := by rw [bump_tell]; simp [bumpR, hf, hs, hn]
        rw [hr]
        have F1 := hid (fine_iff.1 hf)
        have HS := hid hsp
        obtain ⟨r, hr2⟩ : ∃ r, r = tell (jv (fun x y => x + y) l [(0, 0), (a, n), (b, 0)]) := ⟨_, rfl⟩
        rw [← hr2]
        have HR := hid hr2
        clear hr2 hr hf hsp
        go_enter Try.func55, Try.ntmps55
        go_wp2_with fail
        refine (Check_any _ _ _ _ l h).mono ?_
        rintro e w1 ⟨rfl, hb⟩
        rw [hk]
        go_wp2_with (first | (go_at_call 37; refine (span_any _ _ _).mono ?_; rintro e w' ⟨rfl, rfl⟩; rw [hs]) | (go_at_call 69; refine (bounded_any _ _).mono ?_; rintro e w' ⟨rfl, rfl⟩; rw [hn]))
        have hb2 : Below w'.heap.size w' (w'.alloc (.cells #[.int .i64 0, .int .i64 0, .int .i64 a, .int .i64 n, .int .i64 b, .int .i64 0] 70)) := (Below.refl _ _).alloc (Nat.le_refl _) _
        have hl := lay_gives 78 _ joins54 _ a0 (some ⟨w'.heap.size, 0, none⟩) n0 cap0 3 3 l [(0, 0), (a, n), (b, 0)] ((h.later hb).later hb2) (runs_lit w' [(0, 0), (a, n), (b, 0)] _ 3 rfl rfl (by simp)) F1.out.rises (more_rises HS.out.1 HS.out.2.1) (fun i hi => F1.out.bdd (by rw [← h.len]; exact hi)) (fun i hi => by
          match i, hi with
          | 0, _ => rfl
          | 1, _ => exact hn
          | 2, _ => rfl)
        rw [← HR.out] at hl
        refine hl.mono ?_
        clear hl
        rintro e w3 ⟨a', n', cap', rfl, hr, hb3⟩
        go_wp2
        go_ret2
        exact ⟨a', n', cap', rfl, hr, below_from (below_from hb hb2) hb3⟩
end Go.Proofs.Ytcgchicdmgllaad
