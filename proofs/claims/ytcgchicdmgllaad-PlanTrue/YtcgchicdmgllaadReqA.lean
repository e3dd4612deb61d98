/- Requests in memory; contracts of req.check, req.Check, wrong and of the reference's CheckReq and shaped: the first error that applies. -/
import Derived.Test.YtcgchicdmgllaadTreeE
namespace Go.Proofs.Ytcgchicdmgllaad
open Go.RowKit

/-- all below n -/
def allN (p : Nat → Bool) : Nat → Bool
  | 0 => true
  | k + 1 => allN p k && p k
theorem allN_false {p : Nat → Bool} {k : Nat} (h : p k = false) : ∀ n, k < n → allN p n = false
  | 0, hn => by omega
  | n + 1, hn => by
    by_cases e : k = n
    · subst e; simp [allN, h]
    · rw [allN, allN_false h n (by omega)]; rfl
theorem allN_iff {p : Nat → Bool} : ∀ {n : Nat}, allN p n = true ↔ ∀ k, k < n → p k = true
  | 0 => by simp [allN]
  | n + 1 => by
    simp only [allN, Bool.and_eq_true, allN_iff (n := n)]
    constructor
    · rintro ⟨h1, h2⟩ k hk
      by_cases e : k = n
      · subst e; exact h2
      · exact h1 k (by omega)
    · intro h
      exact ⟨fun k hk => h k (by omega), h n (by omega)⟩

/-- a request: its pieces are pairs (Len, N) -/
structure Rq where
  queue : Int
  fr : Int
  un : Int
  kind : Int
  pa : Option Addr
  pn : Nat
  pc : Nat
  ps : RunL
def RqIn (w : World) (r : Rq) : Prop := RunsIn w r.pa r.pn r.pc r.ps
theorem RqIn.later {w w' : World} {r : Rq} (h : RqIn w r) (hb : Below w.heap.size w w') : RqIn w' r := RunsIn.later h hb

def pieceOk (ps : RunL) (k : Nat) : Bool := wth (rAt ps k) 1 24 && wth (rN ps k) 1 50
def piecesOk (ps : RunL) : Bool := allN (pieceOk ps) ps.length
def rangeOk (r : Rq) : Bool := spn r.fr r.un && piecesOk r.ps
/-- C1's errors behind those of the queues; miss: there is no such queue -/
def chkR (miss : Bool) (r : Rq) : Int :=
  if wth r.kind 1 4 = true then (if wth r.ps.length 1 3 = true then (if miss = true then 6 else (if rangeOk r = true then 0 else 3)) else 2) else 7

theorem badPiece_any (w : World) (a b : Int) :
    Calls Try.prog 91 #[.agg #[.int .i64 a, .int .i64 b]] w fun e w' => e = .returned (.bool (!(wth a 1 24 && wth b 1 50))) ∧ Below w.heap.size w w' := by
  go_enter Try.func91, Try.ntmps91
  go_wp2
  all_goals
    go_ret
    refine ⟨ret_bool ?_, (Below.refl _ _).alloc (Nat.le_refl _) _⟩
    rw [Bool.eq_iff_iff]; simp [wth]; try omega

set_option maxHeartbeats 400000 in
theorem IndexPs_some (w : World) (b off n cap : Nat) (l : RunL) (h : RunsIn w (some ⟨b, off, none⟩) n cap l) (hp : 0 < n) :
    Calls Try.prog 98 #[.slice (some ⟨b, off, none⟩) n cap, .func (.func 91) #[] #[]] w fun e w' => ∃ r : Int, e = .returned (.int .i64 r) ∧ (decide (0 ≤ r)) = (!allN (pieceOk l) n) ∧ Below w.heap.size w w' := by
  have HN := hid h.len
  have hle := h.le
  have hbd := h.capb
  obtain ⟨b', off', e, hc⟩ := h.cells hp
  cases e
  have HC := hid hc
  clear hc
  go_enter Try.func98, Try.ntmps98
  go_wp2
  go_loopw [5, 8] (fun _ st wr => ∃ k : Nat, st = .int .i64 k ∧ k ≤ n ∧ allN (pieceOk l) k = true ∧ Below w.heap.size w wr) (fun _ st _ => n - (intOf st).toNat)
  case atStart => exact ⟨0, rfl, by omega, rfl, Below.refl _ _⟩
  case round =>
    obtain ⟨j, rfl, hj, hall, hbel⟩ := hrel
    have HA := hid hall
    have HB := hid hbel
    clear hall hbel
    by_cases hlt : j < n
    · have hlt' : (j : Int) < n := by omega
      have c0 := cell_later HB.out (HC.out j hlt).1
      have c1 := cell_later HB.out (HC.out j hlt).2
      cases g : pieceOk l j with
      | false =>
        go_wp2_with fail
        refine (badPiece_any wr (rAt l j) (rN l j)).mono ?_
        rintro e w1 ⟨rfl, hb1⟩
        rw [show (wth (rAt l j) 1 24 && wth (rN l j) 1 50) = false from g]
        go_wp2
        go_ret
        exact ⟨_, rfl, by rw [allN_false g n hlt]; simp, below_from HB.out hb1⟩
      | true =>
        go_wp2_with fail
        refine (badPiece_any wr (rAt l j) (rN l j)).mono ?_
        rintro e w1 ⟨rfl, hb1⟩
        have HB1 := hid hb1
        clear hb1
        rw [show (wth (rAt l j) 1 24 && wth (rN l j) 1 50) = true from g]
        go_wp2
        go_roundw
        case rel => exact ⟨j + 1, by go_num, by omega, by rw [allN, HA.out, g]; rfl, below_from HB.out HB1.out⟩
        case measure => simp [intOf]; omega
    · obtain rfl : j = n := by omega
      go_wp2
      go_ret
      exact ⟨_, rfl, by rw [HA.out]; rfl, HB.out⟩
theorem ContainsPs_any (w : World) (a : Option Addr) (n cap : Nat) (l : RunL) (h : RunsIn w a n cap l) (hp : 0 < n) :
    Calls Try.prog 90 #[.slice a n cap, .func (.func 91) #[] #[]] w fun e w' => e = .returned (.bool (!allN (pieceOk l) n)) ∧ Below w.heap.size w w' := by
  obtain ⟨b, off, rfl, _⟩ := h.cells hp
  go_enter Try.func90, Try.ntmps90
  go_wp2_with fail
  refine (IndexPs_some w b off n cap l h hp).mono ?_
  rintro e w1 ⟨r, rfl, hr, hb⟩
  have HR := hid hr
  clear hr
  go_wp2
  go_ret
  exact ⟨ret_bool HR.out, hb⟩

theorem none_any (q : Int) (w : World) : Calls Try.prog 71 #[.int .i64 q] w fun e w' => e = .returned (.bool false) ∧ w' = w := by
  go_enter Try.func71, Try.ntmps71
  go_wp2
  go_ret
  exact ⟨rfl, rfl⟩
/-- there is no such queue -/
def missing (n : Nat) (q : Int) : Bool := !wth q 0 ((n : Int) - 1)
theorem missing_any (q : Int) (w : World) (B : Nat) (a : Option Addr) (n cap : Nat) (_hn : n ≤ cap) (_hcap : cap ≤ 9223372036854775807) (h : w.cell? ⟨B, 0, none⟩ = some (.slice a n cap)) :
    Calls Try.prog 92 #[.int .i64 q, .pointer (some ⟨B, 0, none⟩)] w fun e w' => e = .returned (.bool (missing n q)) ∧ w' = w := by
  go_enter Try.func92, Try.ntmps92
  go_wp2
  all_goals
    go_ret
    refine ⟨ret_bool ?_, rfl⟩
    rw [Bool.eq_iff_iff]; simp [missing, wth]; try omega

theorem chkR_7 {m : Bool} {r : Rq} (h : ¬ (1 ≤ r.kind ∧ r.kind ≤ 4)) : chkR m r = 7 := by
  have : wth r.kind 1 4 = false := by rw [wth]; exact decide_eq_false h
  simp [chkR, this]
theorem chkR_2 {m : Bool} {r : Rq} (h1 : 1 ≤ r.kind ∧ r.kind ≤ 4) (h : ¬ ((1 : Int) ≤ r.ps.length ∧ (r.ps.length : Int) ≤ 3)) : chkR m r = 2 := by
  have a1 : wth r.kind 1 4 = true := by rw [wth]; exact decide_eq_true h1
  have a2 : wth r.ps.length 1 3 = false := by rw [wth]; exact decide_eq_false h
  simp [chkR, a1, a2]
theorem chkR_in {m : Bool} {r : Rq} (h1 : 1 ≤ r.kind ∧ r.kind ≤ 4) (h2 : (1 : Int) ≤ r.ps.length ∧ (r.ps.length : Int) ≤ 3) : chkR m r = if m = true then 6 else (if rangeOk r = true then 0 else 3) := by
  have a1 : wth r.kind 1 4 = true := by rw [wth]; exact decide_eq_true h1
  have a2 : wth r.ps.length 1 3 = true := by rw [wth]; exact decide_eq_true h2
  simp [chkR, a1, a2]

set_option maxHeartbeats 1000000 in
theorem check_any (fk : Nat) (caps : Array Value) (miss : Bool) (hk : ∀ (args : Array Value) (w : World), (callFunc fk args).run Try.prog w = .ok (.enter fk args) w) (w : World) (r : Rq) (h : RqIn w r)
    (hm : ∀ w', Below w.heap.size w w' → Calls Try.prog fk (#[.int .i64 r.queue] ++ caps) w' fun e w'' => e = .returned (.bool miss) ∧ w'' = w') :
    Calls Try.prog 70 #[.agg #[.int .i64 r.queue, .int .i64 r.fr, .int .i64 r.un, .int .i64 r.kind, .slice r.pa r.pn r.pc], .func (.func fk) #[] caps] w fun e w' => e = .returned (.int .i64 (chkR miss r)) ∧ Below w.heap.size w w' := by
  have hn := h.len
  have hcb := h.capb
  have hle := h.le
  have HM := hid (hm _ ((Below.refl _ _).alloc (Nat.le_refl _) (.cells #[.int .i64 r.queue, .int .i64 r.fr, .int .i64 r.un, .int .i64 r.kind, .slice r.pa r.pn r.pc] 37)))
  clear hm
  by_cases g1 : r.kind < 1
  · rw [chkR_7 (by omega)]
    clear hn
    go_enter Try.func70, Try.ntmps70
    go_wp2
    go_ret
    exact ⟨rfl, (Below.refl _ _).alloc (Nat.le_refl _) _⟩
  by_cases g2 : 4 < r.kind
  · rw [chkR_7 (by omega)]
    clear hn
    go_enter Try.func70, Try.ntmps70
    go_wp2
    go_ret
    exact ⟨rfl, (Below.refl _ _).alloc (Nat.le_refl _) _⟩
  by_cases g3 : (r.pn : Int) < 1
  · rw [chkR_2 (by omega) (by omega)]
    clear hn
    go_enter Try.func70, Try.ntmps70
    go_wp2
    go_ret
    exact ⟨rfl, (Below.refl _ _).alloc (Nat.le_refl _) _⟩
  by_cases g4 : (3 : Int) < r.pn
  · rw [chkR_2 (by omega) (by omega)]
    clear hn
    go_enter Try.func70, Try.ntmps70
    go_wp2
    go_ret
    exact ⟨rfl, (Below.refl _ _).alloc (Nat.le_refl _) _⟩
  have hp : 0 < r.pn := by omega
  rw [chkR_in (by omega) (by omega)]
  cases miss with
  | true =>
    clear hn
    go_enter Try.func70, Try.ntmps70
    go_wp2_with fail
    refine HM.out.mono ?_
    rintro e w1 ⟨rfl, rfl⟩
    go_wp2
    go_ret
    exact ⟨rfl, (Below.refl _ _).alloc (Nat.le_refl _) _⟩
  | false =>
    have K := hid fun w1 (hb : Below w.heap.size w w1) => ContainsPs_any w1 r.pa r.pn r.pc r.ps (h.later hb) hp
    have hpo : Hid (allN (pieceOk r.ps) r.pn = piecesOk r.ps) := by show allN (pieceOk r.ps) r.pn = piecesOk r.ps; rw [hn]; rfl
    by_cases g5 : 0 ≤ r.fr ∧ r.fr < r.un ∧ r.un ≤ 48
    · have hs : spn r.fr r.un = true := by rw [Bool.eq_iff_iff]; simp [spn]; omega
      have hr : Hid (rangeOk r = piecesOk r.ps) := by show rangeOk r = piecesOk r.ps; rw [rangeOk, hs]; rfl
      rw [hr.out]
      obtain ⟨g5, g6, g7⟩ := g5
      have g5' : ¬ r.fr < 0 := by omega
      have g6' : ¬ r.un ≤ r.fr := by omega
      have g7' : ¬ 48 < r.un := by omega
      clear hn hs
      cases g : piecesOk r.ps
      all_goals
        go_enter Try.func70, Try.ntmps70
        go_wp2_with fail
        refine HM.out.mono ?_
        rintro e w1 ⟨rfl, rfl⟩
        go_wp2_with fail
        refine (K.out _ ((Below.refl _ _).alloc (Nat.le_refl _) _)).mono ?_
        rintro e w2 ⟨rfl, B2⟩
        rw [hpo.out, g]
        have B3 := hid (below_from ((Below.refl w.heap.size w).alloc (Nat.le_refl _) _) B2)
        clear B2
        go_wp2
        go_ret
        exact ⟨ret_int (by rfl), B3.out⟩
    · have hs : spn r.fr r.un = false := by rw [Bool.eq_false_iff]; simp [spn]; omega
      have hr : rangeOk r = false := by rw [rangeOk, hs]; rfl
      rw [hr]
      clear hn hs hr hpo
      go_enter Try.func70, Try.ntmps70
      go_wp2_with fail
      refine HM.out.mono ?_
      rintro e w1 ⟨rfl, rfl⟩
      by_cases g6 : r.fr < 0
      · go_wp2
        go_ret
        exact ⟨rfl, (Below.refl _ _).alloc (Nat.le_refl _) _⟩
      by_cases g7 : r.un ≤ r.fr
      · go_wp2
        go_ret
        exact ⟨rfl, (Below.refl _ _).alloc (Nat.le_refl _) _⟩
      have g8 : 48 < r.un := by omega
      go_wp2
      go_ret
      exact ⟨rfl, (Below.refl _ _).alloc (Nat.le_refl _) _⟩
end Go.Proofs.Ytcgchicdmgllaad
