/- Several texts in one: ReqA, ReqB, ReqC, ReqD, ReqE, ReqM, ReqF, ReqG, ReqH. -/
import Derived.Test.YtckpdfkobdgjeaaGreatDoorKTreeAll
import Derived.Deep.RegionHeld3
import Derived.Test.YtckpdfkobdgjeaaGreatDoorKAll0
namespace Go.Proofs.YtckpdfkobdgjeaaGreatDoor
open Go.RowKit
def allN (p : Nat → Bool) : Nat → Bool
  | 0 => true
  | k + 1 => allN p k && p k
theorem allN_false {p : Nat → Bool} {k : Nat} (h : p k = false) : ∀ n, k < n → allN p n = false
  | 0, hn => by omega
  | n + 1, hn => by
    by_cases e : k = n
    · subst e; simp [allN, h]
    · rw [allN, allN_false h n (by omega)]; rfl
theorem allN_iff {p : Nat → Bool} : ∀ {n : Nat}, allN p n = true ↔ ∀ k, k < n → p k = true
  | 0 => by simp [allN]
  | n + 1 => by
    simp only [allN, Bool.and_eq_true, allN_iff (n := n)]
    constructor
    · rintro ⟨h1, h2⟩ k hk
      by_cases e : k = n
      · subst e; exact h2
      · exact h1 k (by omega)
    · intro h
      exact ⟨fun k hk => h k (by omega), h n (by omega)⟩
structure Rq where
  queue : Int
  fr : Int
  un : Int
  kind : Int
  pa : Option Addr
  pn : Nat
  pc : Nat
  ps : RunL
def RqIn (w : World) (r : Rq) : Prop := RunsIn w r.pa r.pn r.pc r.ps
theorem RqIn.later {w w' : World} {r : Rq} (h : RqIn w r) (hb : Below w.heap.size w w') : RqIn w' r := RunsIn.later h hb
def pieceOk (ps : RunL) (k : Nat) : Bool := wth (rAt ps k) 1 24 && wth (rN ps k) 1 50
def piecesOk (ps : RunL) : Bool := allN (pieceOk ps) ps.length
def rangeOk (r : Rq) : Bool := spn r.fr r.un && piecesOk r.ps
def chkR (miss : Bool) (r : Rq) : Int :=
  if wth r.kind 1 4 = true then (if wth r.ps.length 1 3 = true then (if miss = true then 6 else (if rangeOk r = true then 0 else 3)) else 2) else 7
theorem badPiece_any (w : World) (a b : Int) :
    Calls Tryz.prog 183 #[.agg #[.int .i64 a, .int .i64 b]] w fun e w' => e = .returned (.bool (!(wth a 1 24 && wth b 1 50))) ∧ Below w.heap.size w w' := by
  go_enter Tryz.func183, Tryz.ntmps183
  go_wp2
  all_goals
    go_ret
    refine ⟨ret_bool ?_, (Below.refl _ _).alloc (Nat.le_refl _) _⟩
    rw [Bool.eq_iff_iff]; simp [wth]; try omega
set_option maxHeartbeats 400000 in
theorem IndexPs_some (w : World) (b off n cap : Nat) (l : RunL) (h : RunsIn w (some ⟨b, off, none⟩) n cap l) (hp : 0 < n) :
    Calls Tryz.prog 194 #[.slice (some ⟨b, off, none⟩) n cap, .func (.func 183) #[] #[]] w fun e w' => ∃ r : Int, e = .returned (.int .i64 r) ∧ (decide (0 ≤ r)) = (!allN (pieceOk l) n) ∧ Below w.heap.size w w' := by
  have HN := hid h.len
  have hle := h.le
  have hbd := h.capb
  obtain ⟨b', off', e, hc⟩ := h.cells hp
  cases e
  have HC := hid hc
  clear hc
  go_enter Tryz.func194, Tryz.ntmps194
  go_wp2
  go_loopw [5, 8] (fun _ st wr => ∃ k : Nat, st = .int .i64 k ∧ k ≤ n ∧ allN (pieceOk l) k = true ∧ Below w.heap.size w wr) (fun _ st _ => n - (intOf st).toNat)
  case atStart => exact ⟨0, rfl, by omega, rfl, Below.refl _ _⟩
  case round =>
    obtain ⟨j, rfl, hj, hall, hbel⟩ := hrel
    have HA := hid hall
    have HB := hid hbel
    clear hall hbel
    by_cases hlt : j < n
    · have hlt' : (j : Int) < n := by omega
      have c0 := cell_later HB.out (HC.out j hlt).1
      have c1 := cell_later HB.out (HC.out j hlt).2
      cases g : pieceOk l j with
      | false =>
        go_wp2_with fail
        refine (badPiece_any wr (rAt l j) (rN l j)).mono ?_
        rintro e w1 ⟨rfl, hb1⟩
        rw [show (wth (rAt l j) 1 24 && wth (rN l j) 1 50) = false from g]
        go_wp2
        go_ret
        exact ⟨_, rfl, by rw [allN_false g n hlt]; simp, below_from HB.out hb1⟩
      | true =>
        go_wp2_with fail
        refine (badPiece_any wr (rAt l j) (rN l j)).mono ?_
        rintro e w1 ⟨rfl, hb1⟩
        have HB1 := hid hb1
        clear hb1
        rw [show (wth (rAt l j) 1 24 && wth (rN l j) 1 50) = true from g]
        go_wp2
        go_roundw
        case rel => exact ⟨j + 1, by go_num, by omega, by rw [allN, HA.out, g]; rfl, below_from HB.out HB1.out⟩
        case measure => simp [intOf]; omega
    · obtain rfl : j = n := by omega
      go_wp2
      go_ret
      exact ⟨_, rfl, by rw [HA.out]; rfl, HB.out⟩
theorem ContainsPs_any (w : World) (a : Option Addr) (n cap : Nat) (l : RunL) (h : RunsIn w a n cap l) (hp : 0 < n) :
    Calls Tryz.prog 182 #[.slice a n cap, .func (.func 183) #[] #[]] w fun e w' => e = .returned (.bool (!allN (pieceOk l) n)) ∧ Below w.heap.size w w' := by
  obtain ⟨b, off, rfl, _⟩ := h.cells hp
  go_enter Tryz.func182, Tryz.ntmps182
  go_wp2_with fail
  refine (IndexPs_some w b off n cap l h hp).mono ?_
  rintro e w1 ⟨r, rfl, hr, hb⟩
  have HR := hid hr
  clear hr
  go_wp2
  go_ret
  exact ⟨ret_bool HR.out, hb⟩
theorem none_any (q : Int) (w : World) : Calls Tryz.prog 167 #[.int .i64 q] w fun e w' => e = .returned (.bool false) ∧ w' = w := by
  go_enter Tryz.func167, Tryz.ntmps167
  go_wp2
  go_ret
  exact ⟨rfl, rfl⟩
def missing (n : Nat) (q : Int) : Bool := !wth q 0 ((n : Int) - 1)
theorem missing_any (q : Int) (w : World) (B : Nat) (a : Option Addr) (n cap : Nat) (_hn : n ≤ cap) (_hcap : cap ≤ 9223372036854775807) (h : w.cell? ⟨B, 0, none⟩ = some (.slice a n cap)) :
    Calls Tryz.prog 154 #[.int .i64 q, .pointer (some ⟨B, 0, none⟩)] w fun e w' => e = .returned (.bool (missing n q)) ∧ w' = w := by
  go_enter Tryz.func154, Tryz.ntmps154
  go_wp2
  all_goals
    go_ret
    refine ⟨ret_bool ?_, rfl⟩
    rw [Bool.eq_iff_iff]; simp [missing, wth]; try omega
theorem chkR_7 {m : Bool} {r : Rq} (h : ¬ (1 ≤ r.kind ∧ r.kind ≤ 4)) : chkR m r = 7 := by
  have : wth r.kind 1 4 = false := by rw [wth]; exact decide_eq_false h
  simp [chkR, this]
theorem chkR_2 {m : Bool} {r : Rq} (h1 : 1 ≤ r.kind ∧ r.kind ≤ 4) (h : ¬ ((1 : Int) ≤ r.ps.length ∧ (r.ps.length : Int) ≤ 3)) : chkR m r = 2 := by
  have a1 : wth r.kind 1 4 = true := by rw [wth]; exact decide_eq_true h1
  have a2 : wth r.ps.length 1 3 = false := by rw [wth]; exact decide_eq_false h
  simp [chkR, a1, a2]
theorem chkR_in {m : Bool} {r : Rq} (h1 : 1 ≤ r.kind ∧ r.kind ≤ 4) (h2 : (1 : Int) ≤ r.ps.length ∧ (r.ps.length : Int) ≤ 3) : chkR m r = if m = true then 6 else (if rangeOk r = true then 0 else 3) := by
  have a1 : wth r.kind 1 4 = true := by rw [wth]; exact decide_eq_true h1
  have a2 : wth r.ps.length 1 3 = true := by rw [wth]; exact decide_eq_true h2
  simp [chkR, a1, a2]
set_option maxHeartbeats 1000000 in
theorem check_any (fk : Nat) (caps : Array Value) (miss : Bool) (hk : ∀ (args : Array Value) (w : World), (callFunc fk args).run Tryz.prog w = .ok (.enter fk args) w) (w : World) (r : Rq) (h : RqIn w r)
    (hm : ∀ w', Below w.heap.size w w' → Calls Tryz.prog fk (#[.int .i64 r.queue] ++ caps) w' fun e w'' => e = .returned (.bool miss) ∧ w'' = w') :
    Calls Tryz.prog 153 #[.agg #[.int .i64 r.queue, .int .i64 r.fr, .int .i64 r.un, .int .i64 r.kind, .slice r.pa r.pn r.pc], .func (.func fk) #[] caps] w fun e w' => e = .returned (.int .i64 (chkR miss r)) ∧ Below w.heap.size w w' := by
  have hn := h.len
  have hcb := h.capb
  have hle := h.le
  have HM := hid (hm _ ((Below.refl _ _).alloc (Nat.le_refl _) (.cells #[.int .i64 r.queue, .int .i64 r.fr, .int .i64 r.un, .int .i64 r.kind, .slice r.pa r.pn r.pc] 24)))
  clear hm
  by_cases g1 : r.kind < 1
  · rw [chkR_7 (by omega)]
    clear hn
    go_enter Tryz.func153, Tryz.ntmps153
    go_wp2
    go_ret
    exact ⟨rfl, (Below.refl _ _).alloc (Nat.le_refl _) _⟩
  by_cases g2 : 4 < r.kind
  · rw [chkR_7 (by omega)]
    clear hn
    go_enter Tryz.func153, Tryz.ntmps153
    go_wp2
    go_ret
    exact ⟨rfl, (Below.refl _ _).alloc (Nat.le_refl _) _⟩
  by_cases g3 : (r.pn : Int) < 1
  · rw [chkR_2 (by omega) (by omega)]
    clear hn
    go_enter Tryz.func153, Tryz.ntmps153
    go_wp2
    go_ret
    exact ⟨rfl, (Below.refl _ _).alloc (Nat.le_refl _) _⟩
  by_cases g4 : (3 : Int) < r.pn
  · rw [chkR_2 (by omega) (by omega)]
    clear hn
    go_enter Tryz.func153, Tryz.ntmps153
    go_wp2
    go_ret
    exact ⟨rfl, (Below.refl _ _).alloc (Nat.le_refl _) _⟩
  have hp : 0 < r.pn := by omega
  rw [chkR_in (by omega) (by omega)]
  cases miss with
  | true =>
    clear hn
    go_enter Tryz.func153, Tryz.ntmps153
    go_wp2_with fail
    refine HM.out.mono ?_
    rintro e w1 ⟨rfl, rfl⟩
    go_wp2
    go_ret
    exact ⟨rfl, (Below.refl _ _).alloc (Nat.le_refl _) _⟩
  | false =>
    have K := hid fun w1 (hb : Below w.heap.size w w1) => ContainsPs_any w1 r.pa r.pn r.pc r.ps (h.later hb) hp
    have hpo : Hid (allN (pieceOk r.ps) r.pn = piecesOk r.ps) := by show allN (pieceOk r.ps) r.pn = piecesOk r.ps; rw [hn]; rfl
    by_cases g5 : 0 ≤ r.fr ∧ r.fr < r.un ∧ r.un ≤ 48
    · have hs : spn r.fr r.un = true := by rw [Bool.eq_iff_iff]; simp [spn]; omega
      have hr : Hid (rangeOk r = piecesOk r.ps) := by show rangeOk r = piecesOk r.ps; rw [rangeOk, hs]; rfl
      rw [hr.out]
      obtain ⟨g5, g6, g7⟩ := g5
      have g5' : ¬ r.fr < 0 := by omega
      have g6' : ¬ r.un ≤ r.fr := by omega
      have g7' : ¬ 48 < r.un := by omega
      clear hn hs
      cases g : piecesOk r.ps
      all_goals
        go_enter Tryz.func153, Tryz.ntmps153
        go_wp2_with fail
        refine HM.out.mono ?_
        rintro e w1 ⟨rfl, rfl⟩
        go_wp2_with fail
        refine (K.out _ ((Below.refl _ _).alloc (Nat.le_refl _) _)).mono ?_
        rintro e w2 ⟨rfl, B2⟩
        rw [hpo.out, g]
        have B3 := hid (below_from ((Below.refl w.heap.size w).alloc (Nat.le_refl _) _) B2)
        clear B2
        go_wp2
        go_ret
        exact ⟨ret_int (by rfl), B3.out⟩
    · have hs : spn r.fr r.un = false := by rw [Bool.eq_false_iff]; simp [spn]; omega
      have hr : rangeOk r = false := by rw [rangeOk, hs]; rfl
      rw [hr]
      clear hn hs hr hpo
      go_enter Tryz.func153, Tryz.ntmps153
      go_wp2_with fail
      refine HM.out.mono ?_
      rintro e w1 ⟨rfl, rfl⟩
      by_cases g6 : r.fr < 0
      · go_wp2
        go_ret
        exact ⟨rfl, (Below.refl _ _).alloc (Nat.le_refl _) _⟩
      by_cases g7 : r.un ≤ r.fr
      · go_wp2
        go_ret
        exact ⟨rfl, (Below.refl _ _).alloc (Nat.le_refl _) _⟩
      have g8 : 48 < r.un := by omega
      go_wp2
      go_ret
      exact ⟨rfl, (Below.refl _ _).alloc (Nat.le_refl _) _⟩
end Go.Proofs.YtckpdfkobdgjeaaGreatDoor
namespace Go.Proofs.YtckpdfkobdgjeaaGreatDoor
open Go.RowKit
def chkQR (l : QL) (r : Rq) : Int := if chkT l = 0 then chkR (missing l.length r.queue) r else chkT l
theorem wrong_any (w : World) (r : Rq) (h : RqIn w r) :
    Calls Tryz.prog 132 #[.agg #[.int .i64 r.queue, .int .i64 r.fr, .int .i64 r.un, .int .i64 r.kind, .slice r.pa r.pn r.pc]] w fun e w' => e = .returned (.bool (decide (chkR false r ≠ 0))) ∧ Below w.heap.size w w' := by
  have B1 := hid ((Below.refl w.heap.size w).alloc (Nat.le_refl _) (.cells #[.int .i64 r.queue, .int .i64 r.fr, .int .i64 r.un, .int .i64 r.kind, .slice r.pa r.pn r.pc] 24))
  have K := hid (check_any 167 #[] false (fun args w => by go_simp) _ r (h.later B1.out) (fun w' _ => none_any r.queue w'))
  go_enter Tryz.func132, Tryz.ntmps132
  go_wp2_with fail
  refine K.out.mono ?_
  rintro e w1 ⟨rfl, B2⟩
  have B3 := hid (below_from B1.out B2)
  clear B2 B1
  obtain ⟨x, hx⟩ : ∃ x, chkR false r = x := ⟨_, rfl⟩
  rw [hx]
  go_wp2
  go_ret
  exact ⟨ret_bool (by subst hx; rw [Bool.eq_iff_iff]; simp), B3.out⟩
theorem CheckRq_any (w : World) (a : Option Addr) (n cap : Nat) (l : QL) (hl : QsIn w a n cap l) (r : Rq) (h : RqIn w r) :
    Calls Tryz.prog 101 #[.slice a n cap, .agg #[.int .i64 r.queue, .int .i64 r.fr, .int .i64 r.un, .int .i64 r.kind, .slice r.pa r.pn r.pc]] w fun e w' => e = .returned (.int .i64 (chkQR l r)) ∧ Below w.heap.size w w' := by
  have hle := hl.le
  have hcb := hl.capb
  have HN := hid hl.len
  have B1 := hid (((Below.refl w.heap.size w).alloc (Nat.le_refl _) (.cells #[.slice a n cap] 37)).alloc (by simp) (.cells #[.int .i64 r.queue, .int .i64 r.fr, .int .i64 r.un, .int .i64 r.kind, .slice r.pa r.pn r.pc] 24))
  have K := hid (CheckT_any _ a n cap l (hl.later B1.out))
  have bl : ((w.alloc (.cells #[.slice a n cap] 37)).alloc (.cells #[.int .i64 r.queue, .int .i64 r.fr, .int .i64 r.un, .int .i64 r.kind, .slice r.pa r.pn r.pc] 24)).cell? ⟨w.heap.size, 0, none⟩ = some (.slice a n cap) := by go_simp
  have HBL := hid bl
  clear bl
  by_cases g : chkT l = 0
  · have hr : chkQR l r = chkR (missing n r.queue) r := by rw [chkQR, if_pos g, HN.out]
    rw [hr]
    go_enter Tryz.func101, Tryz.ntmps101
    go_wp2_with fail
    refine K.out.mono ?_
    rintro e w1 ⟨rfl, B2⟩
    rw [g]
    have B3 := hid (below_from B1.out B2)
    have c0 := cell_later B2 HBL.out
    have c1 : w1.cell? ⟨w.heap.size + 1, 0, none⟩ = some (.int .i64 r.queue) := cell_later B2 (by go_simp)
    have c2 : w1.cell? ⟨w.heap.size + 1, 1, none⟩ = some (.int .i64 r.fr) := cell_later B2 (by go_simp)
    have c3 : w1.cell? ⟨w.heap.size + 1, 2, none⟩ = some (.int .i64 r.un) := cell_later B2 (by go_simp)
    have c4 : w1.cell? ⟨w.heap.size + 1, 3, none⟩ = some (.int .i64 r.kind) := cell_later B2 (by go_simp)
    have c5 : w1.cell? ⟨w.heap.size + 1, 4, none⟩ = some (.slice r.pa r.pn r.pc) := cell_later B2 (by go_simp)
    clear B2
    go_wp2_with fail
    refine (check_any 154 #[.pointer (some ⟨w.heap.size, 0, none⟩)] (missing n r.queue) (fun args w => by go_simp) w1 r (h.later B3.out) (fun w' hb => missing_any r.queue w' w.heap.size a n cap hle hcb (cell_later hb c0))).mono ?_
    rintro e w2 ⟨rfl, B4⟩
    have B5 := hid (below_from B3.out B4)
    clear B4
    obtain ⟨x, hx⟩ : ∃ x, chkR (missing n r.queue) r = x := ⟨_, rfl⟩
    rw [hx]
    go_wp2
    go_ret
    exact ⟨ret_int hx.symm, B5.out⟩
  · have hr : chkQR l r = chkT l := by rw [chkQR, if_neg g]
    rw [hr]
    obtain ⟨x, hx⟩ : ∃ x, chkT l = x := ⟨_, rfl⟩
    rw [hx] at g K
    rw [hx]
    go_enter Tryz.func101, Tryz.ntmps101
    go_wp2_with fail
    refine K.out.mono ?_
    rintro e w1 ⟨rfl, B2⟩
    have B3 := hid (below_from B1.out B2)
    clear B2
    go_wp2
    go_ret
    exact ⟨rfl, B3.out⟩
theorem chkR_zero {r : Rq} : chkR false r = 0 ↔ wth r.kind 1 4 = true ∧ wth r.ps.length 1 3 = true ∧ rangeOk r = true := by
  unfold chkR
  constructor
  · intro h
    split at h <;> rename_i h1
    · split at h <;> rename_i h2
      · simp at h; exact ⟨h1, h2, by cases g : rangeOk r <;> simp [g] at h ⊢⟩
      · simp at h
    · simp at h
  · rintro ⟨h1, h2, h3⟩
    simp [h1, h2, h3]
end Go.Proofs.YtckpdfkobdgjeaaGreatDoor
namespace Go.Proofs.YtckpdfkobdgjeaaGreatDoor
open Go.RowKit
def isPiece (r : Rq) (b : RunL) (i : Nat) : Bool := wth (rAt b i) 0 ((r.ps.length : Int) - 1)
def lenOf (r : Rq) (b : RunL) (i : Nat) : Int := rAt r.ps (rAt b i).toNat
def overAt (r : Rq) (b : RunL) (i : Nat) : Int := rN b i + lenOf r b i
def wantedN (r : Rq) : Int := if r.kind = 2 then 1 else r.ps.length
def followsB (r : Rq) (b : RunL) (i j : Nat) : Bool := decide (rAt b i < rAt b j) && (if r.kind = 3 then decide (overAt r b i ≤ rN b j) else if r.kind = 4 then decide (rN b j = overAt r b i) else true)
def inTime (r : Rq) (b : RunL) (i : Nat) : Bool := decide (r.fr ≤ rN b i ∧ rN b i ≤ r.un - lenOf r b i)
def biteOk (r : Rq) (b : RunL) (i : Nat) : Bool := (isPiece r b i && inTime r b i) && (decide (i = 0) || followsB r b (i - 1) i)
def meets (r : Rq) (b : RunL) : Bool := decide (chkR false r = 0) && (decide ((b.length : Int) = wantedN r) && allN (biteOk r b) b.length)
theorem noPiece_any (w : World) (r : Rq) (h : RqIn w r) (p t : Int) :
    Calls Tryz.prog 135 #[.agg #[.int .i64 r.queue, .int .i64 r.fr, .int .i64 r.un, .int .i64 r.kind, .slice r.pa r.pn r.pc], .agg #[.int .i64 p, .int .i64 t]] w fun e w' => e = .returned (.bool (!wth p 0 ((r.ps.length : Int) - 1))) ∧ Below w.heap.size w w' := by
  have hn := h.len
  have hcb := h.capb
  have hle := h.le
  rw [← hn]
  clear hn
  go_enter Tryz.func135, Tryz.ntmps135
  go_wp2
  all_goals
    go_ret
    refine ⟨ret_bool ?_, ((Below.refl _ _).alloc (Nat.le_refl _) _).alloc (by simp) _⟩
    rw [Bool.eq_iff_iff]; simp [wth]; try omega
theorem over_any (w : World) (r : Rq) (h : RqIn w r) (p t : Int) (hp : 0 ≤ p ∧ p < r.ps.length) (hL : 0 ≤ rAt r.ps p.toNat ∧ rAt r.ps p.toNat ≤ 24) (hT : 0 ≤ t ∧ t ≤ 48) :
    Calls Tryz.prog 136 #[.agg #[.int .i64 r.queue, .int .i64 r.fr, .int .i64 r.un, .int .i64 r.kind, .slice r.pa r.pn r.pc], .agg #[.int .i64 p, .int .i64 t]] w fun e w' => e = .returned (.int .i64 (t + rAt r.ps p.toNat)) ∧ Below w.heap.size w w' := by
  have hn := h.len
  have hcb := h.capb
  have hle := h.le
  obtain ⟨b, off, hpa, hc⟩ := h.cells (by omega)
  obtain ⟨hp0, hp1⟩ := hp
  obtain ⟨P, rfl⟩ := Int.eq_ofNat_of_zero_le hp0
  rw [Int.toNat_natCast] at hL ⊢
  have hP : P < r.pn := by omega
  have hP' : (P : Int) < r.pn := by omega
  have B1 := hid (((Below.refl w.heap.size w).alloc (Nat.le_refl _) (.cells #[.int .i64 r.queue, .int .i64 r.fr, .int .i64 r.un, .int .i64 r.kind, .slice r.pa r.pn r.pc] 24)).alloc (by simp) (.cells #[.int .i64 P, .int .i64 t] 62))
  have c0 := cell_later B1.out (hc P hP).1
  rw [hpa] at c0 B1
  rw [hpa]
  obtain ⟨x, hx⟩ : ∃ x, rAt r.ps P = x := ⟨_, rfl⟩
  rw [hx] at c0 hL
  rw [hx]
  have hw : IntKind.i64.wrap (t + x) = t + x := by rw [IntKind.wrap_i64]; omega
  clear hc hn hx hpa
  go_enter Tryz.func136, Tryz.ntmps136
  go_wp2
  go_quiet (fail)
  go_wp2
  go_ret
  exact ⟨rfl, below_drewN B1.out _⟩
theorem wanted_any (w : World) (r : Rq) (h : RqIn w r) :
    Calls Tryz.prog 186 #[.agg #[.int .i64 r.queue, .int .i64 r.fr, .int .i64 r.un, .int .i64 r.kind, .slice r.pa r.pn r.pc]] w fun e w' => e = .returned (.int .i64 (wantedN r)) ∧ Below w.heap.size w w' := by
  have hn := h.len
  have hcb := h.capb
  have hle := h.le
  by_cases g : r.kind = 2
  · have hr : wantedN r = 1 := by rw [wantedN, if_pos g]
    rw [hr]
    clear hn
    go_enter Tryz.func186, Tryz.ntmps186
    go_wp2
    go_ret
    exact ⟨rfl, (Below.refl _ _).alloc (Nat.le_refl _) _⟩
  · have hr : wantedN r = r.pn := by rw [wantedN, if_neg g, hn]
    rw [hr]
    clear hn
    go_enter Tryz.func186, Tryz.ntmps186
    go_wp2
    go_ret
    exact ⟨rfl, (Below.refl _ _).alloc (Nat.le_refl _) _⟩
def followsV (r : Rq) (p0 t0 p1 t1 : Int) : Bool := decide (p0 < p1) && (if r.kind = 3 then decide (t0 + rAt r.ps p0.toNat ≤ t1) else if r.kind = 4 then decide (t1 = t0 + rAt r.ps p0.toNat) else true)
set_option maxHeartbeats 1000000 in
theorem follows_any (w : World) (r : Rq) (h : RqIn w r) (p0 t0 p1 t1 : Int) (hp : 0 ≤ p0 ∧ p0 < r.ps.length) (hL : 0 ≤ rAt r.ps p0.toNat ∧ rAt r.ps p0.toNat ≤ 24) (hT : 0 ≤ t0 ∧ t0 ≤ 48) :
    Calls Tryz.prog 187 #[.agg #[.int .i64 r.queue, .int .i64 r.fr, .int .i64 r.un, .int .i64 r.kind, .slice r.pa r.pn r.pc], .agg #[.int .i64 p0, .int .i64 t0], .agg #[.int .i64 p1, .int .i64 t1]] w fun e w' => e = .returned (.bool (followsV r p0 t0 p1 t1)) ∧ Below w.heap.size w w' := by
  have B1 := hid ((((Below.refl w.heap.size w).alloc (Nat.le_refl _) (.cells #[.int .i64 r.queue, .int .i64 r.fr, .int .i64 r.un, .int .i64 r.kind, .slice r.pa r.pn r.pc] 24)).alloc (by simp) (.cells #[.int .i64 p0, .int .i64 t0] 62)).alloc (by simp; omega) (.cells #[.int .i64 p1, .int .i64 t1] 62))
  have K := hid fun w1 (hb : Below w.heap.size w w1) => over_any w1 r (h.later hb) p0 t0 hp hL hT
  have HL := hid hL
  have HP := hid hp
  clear hp hL hT
  by_cases g1 : p1 ≤ p0
  · have hr : followsV r p0 t0 p1 t1 = false := by simp [followsV]; omega
    rw [hr]
    go_enter Tryz.func187, Tryz.ntmps187
    go_wp2
    go_ret
    exact ⟨rfl, B1.out⟩
  by_cases g2 : r.kind = 3
  · have hr : Hid (followsV r p0 t0 p1 t1 = decide (t0 + rAt r.ps p0.toNat ≤ t1)) := by
      show followsV r p0 t0 p1 t1 = decide (t0 + rAt r.ps p0.toNat ≤ t1)
      rw [followsV, if_pos g2, decide_eq_true (show p0 < p1 by omega)]; rfl
    rw [hr.out]
    rw [g2] at K B1
    go_enter Tryz.func187, Tryz.ntmps187
    go_wp2_with fail
    obtain ⟨W, hW⟩ : ∃ W, W = ((w.alloc (.cells #[.int .i64 r.queue, .int .i64 r.fr, .int .i64 r.un, .int .i64 3, .slice r.pa r.pn r.pc] 24)).alloc (.cells #[.int .i64 p0, .int .i64 t0] 62)).alloc (.cells #[.int .i64 p1, .int .i64 t1] 62) := ⟨_, rfl⟩
    rw [← hW] at B1
    rw [← hW]
    have c0 : W.cell? ⟨w.heap.size, 0, none⟩ = some (.int .i64 r.queue) := by rw [hW]; go_simp
    have c1 : W.cell? ⟨w.heap.size, 1, none⟩ = some (.int .i64 r.fr) := by rw [hW]; go_simp
    have c2 : W.cell? ⟨w.heap.size, 2, none⟩ = some (.int .i64 r.un) := by rw [hW]; go_simp
    have c3 : W.cell? ⟨w.heap.size, 3, none⟩ = some (.int .i64 3) := by rw [hW]; go_simp
    have c4 : W.cell? ⟨w.heap.size, 4, none⟩ = some (.slice r.pa r.pn r.pc) := by rw [hW]; go_simp
    have c5 : W.cell? ⟨w.heap.size + 1, 0, none⟩ = some (.int .i64 p0) := by rw [hW]; go_simp
    have c6 : W.cell? ⟨w.heap.size + 1, 1, none⟩ = some (.int .i64 t0) := by rw [hW]; go_simp
    have c7 : W.cell? ⟨w.heap.size + 1 + 1, 1, none⟩ = some (.int .i64 t1) := by rw [hW]; go_simp
    clear hW
    obtain ⟨x, hx⟩ : ∃ x, rAt r.ps p0.toNat = x := ⟨_, rfl⟩
    rw [hx] at K
    go_region_held3 (fun X => Below w.heap.size w X ∧ X.cell? ⟨w.heap.size, 0, none⟩ = some (.int .i64 r.queue) ∧ X.cell? ⟨w.heap.size, 1, none⟩ = some (.int .i64 r.fr) ∧ X.cell? ⟨w.heap.size, 2, none⟩ = some (.int .i64 r.un) ∧ X.cell? ⟨w.heap.size, 3, none⟩ = some (.int .i64 3) ∧ X.cell? ⟨w.heap.size, 4, none⟩ = some (.slice r.pa r.pn r.pc) ∧ X.cell? ⟨w.heap.size + 1, 0, none⟩ = some (.int .i64 p0) ∧ X.cell? ⟨w.heap.size + 1, 1, none⟩ = some (.int .i64 t0) ∧ X.cell? ⟨w.heap.size + 1 + 1, 1, none⟩ = some (.int .i64 t1))
      (first | exact ⟨below_drewN B1.out 1, c0, c1, c2, c3, c4, c5, c6, c7⟩ | exact ⟨below_from (below_drewN B1.out 1) BB, cell_later BB c0, cell_later BB c1, cell_later BB c2, cell_later BB c3, cell_later BB c4, cell_later BB c5, cell_later BB c6, cell_later BB c7⟩)
      ((go_at_call 136; refine (K.out _ (below_drewN B1.out 1)).mono ?_; rintro e w' ⟨rfl, BB⟩))
    rename_i hH
    have B9 := hid hH.1
    have HX := hid hx
    clear hH BB c0 c1 c2 c3 c4 c5 c6 c7 hx
    go_wp2
    go_ret
    exact ⟨ret_bool (by have := HX.out; subst this; rw [Bool.eq_iff_iff]; try simp), B9.out⟩
  by_cases g3 : r.kind = 4
  · have g2' := g2
    have g2 := g3
    have hr : Hid (followsV r p0 t0 p1 t1 = decide (t1 = t0 + rAt r.ps p0.toNat)) := by
      show followsV r p0 t0 p1 t1 = decide (t1 = t0 + rAt r.ps p0.toNat)
      rw [followsV, if_neg g2', if_pos g3, decide_eq_true (show p0 < p1 by omega)]; rfl
    rw [hr.out]
    rw [g2] at K B1
    go_enter Tryz.func187, Tryz.ntmps187
    go_wp2_with fail
    obtain ⟨W, hW⟩ : ∃ W, W = ((w.alloc (.cells #[.int .i64 r.queue, .int .i64 r.fr, .int .i64 r.un, .int .i64 4, .slice r.pa r.pn r.pc] 24)).alloc (.cells #[.int .i64 p0, .int .i64 t0] 62)).alloc (.cells #[.int .i64 p1, .int .i64 t1] 62) := ⟨_, rfl⟩
    rw [← hW] at B1
    rw [← hW]
    have c0 : W.cell? ⟨w.heap.size, 0, none⟩ = some (.int .i64 r.queue) := by rw [hW]; go_simp
    have c1 : W.cell? ⟨w.heap.size, 1, none⟩ = some (.int .i64 r.fr) := by rw [hW]; go_simp
    have c2 : W.cell? ⟨w.heap.size, 2, none⟩ = some (.int .i64 r.un) := by rw [hW]; go_simp
    have c3 : W.cell? ⟨w.heap.size, 3, none⟩ = some (.int .i64 4) := by rw [hW]; go_simp
    have c4 : W.cell? ⟨w.heap.size, 4, none⟩ = some (.slice r.pa r.pn r.pc) := by rw [hW]; go_simp
    have c5 : W.cell? ⟨w.heap.size + 1, 0, none⟩ = some (.int .i64 p0) := by rw [hW]; go_simp
    have c6 : W.cell? ⟨w.heap.size + 1, 1, none⟩ = some (.int .i64 t0) := by rw [hW]; go_simp
    have c7 : W.cell? ⟨w.heap.size + 1 + 1, 1, none⟩ = some (.int .i64 t1) := by rw [hW]; go_simp
    clear hW
    obtain ⟨x, hx⟩ : ∃ x, rAt r.ps p0.toNat = x := ⟨_, rfl⟩
    rw [hx] at K
    go_region_held3 (fun X => Below w.heap.size w X ∧ X.cell? ⟨w.heap.size, 0, none⟩ = some (.int .i64 r.queue) ∧ X.cell? ⟨w.heap.size, 1, none⟩ = some (.int .i64 r.fr) ∧ X.cell? ⟨w.heap.size, 2, none⟩ = some (.int .i64 r.un) ∧ X.cell? ⟨w.heap.size, 3, none⟩ = some (.int .i64 4) ∧ X.cell? ⟨w.heap.size, 4, none⟩ = some (.slice r.pa r.pn r.pc) ∧ X.cell? ⟨w.heap.size + 1, 0, none⟩ = some (.int .i64 p0) ∧ X.cell? ⟨w.heap.size + 1, 1, none⟩ = some (.int .i64 t0) ∧ X.cell? ⟨w.heap.size + 1 + 1, 1, none⟩ = some (.int .i64 t1))
      (first | exact ⟨below_drewN B1.out 1, c0, c1, c2, c3, c4, c5, c6, c7⟩ | exact ⟨below_from (below_drewN B1.out 1) BB, cell_later BB c0, cell_later BB c1, cell_later BB c2, cell_later BB c3, cell_later BB c4, cell_later BB c5, cell_later BB c6, cell_later BB c7⟩)
      ((go_at_call 136; refine (K.out _ (below_drewN B1.out 1)).mono ?_; rintro e w' ⟨rfl, BB⟩))
    rename_i hH
    have B9 := hid hH.1
    have HX := hid hx
    clear hH BB c0 c1 c2 c3 c4 c5 c6 c7 hx
    go_wp2
    go_ret
    exact ⟨ret_bool (by have := HX.out; subst this; rw [Bool.eq_iff_iff]; try simp), B9.out⟩
  · have hr : followsV r p0 t0 p1 t1 = true := by
      rw [followsV, if_neg g2, if_neg g3, decide_eq_true (show p0 < p1 by omega)]; rfl
    rw [hr]
    go_enter Tryz.func187, Tryz.ntmps187
    go_wp2
    go_ret
    exact ⟨rfl, B1.out⟩
end Go.Proofs.YtckpdfkobdgjeaaGreatDoor
namespace Go.Proofs.YtckpdfkobdgjeaaGreatDoor
open Go.RowKit
theorem meets_bad {r : Rq} {b : RunL} {n j : Nat} (hn : Hid (n = b.length)) (hj : j < n) (h : biteOk r b j = false) : meets r b = false := by
  rw [meets, ← hn.out, allN_false h n hj]; simp
theorem piece_at {r : Rq} {k : Nat} (h : chkR false r = 0) (hk : k < r.ps.length) : 1 ≤ rAt r.ps k ∧ rAt r.ps k ≤ 24 ∧ 1 ≤ rN r.ps k ∧ rN r.ps k ≤ 50 := by
  obtain ⟨h1, h2, h3⟩ := chkR_zero.1 h
  rw [rangeOk, Bool.and_eq_true] at h3
  have h4 := allN_iff.1 h3.2 k hk
  rw [pieceOk, Bool.and_eq_true] at h4
  have h5 := of_decide_eq_true h4.1
  have h6 := of_decide_eq_true h4.2
  exact ⟨h5.1, h5.2, h6.1, h6.2⟩
theorem spn_at {r : Rq} (h : chkR false r = 0) : 0 ≤ r.fr ∧ r.fr < r.un ∧ r.un ≤ 48 := by
  obtain ⟨h1, h2, h3⟩ := chkR_zero.1 h
  rw [rangeOk, Bool.and_eq_true] at h3
  have := h3.1
  simp [spn] at this
  omega
theorem isPiece_at {r : Rq} {b : RunL} {i : Nat} (h : isPiece r b i = true) : 0 ≤ rAt b i ∧ rAt b i < r.ps.length := by
  have := of_decide_eq_true h; omega
theorem lenOf_at {r : Rq} {b : RunL} {i : Nat} (hc : chkR false r = 0) (h : isPiece r b i = true) : 1 ≤ lenOf r b i ∧ lenOf r b i ≤ 24 := by
  have h1 := isPiece_at h
  have := piece_at hc (k := (rAt b i).toNat) (by omega)
  exact ⟨this.1, this.2.1⟩
theorem biteOk_at {r : Rq} {b : RunL} {i : Nat} (h : biteOk r b i = true) : isPiece r b i = true ∧ inTime r b i = true ∧ (i = 0 ∨ followsB r b (i - 1) i = true) := by
  simp [biteOk] at h
  exact ⟨h.1.1, h.1.2, h.2⟩
theorem inTime_at {r : Rq} {b : RunL} {i : Nat} (h : inTime r b i = true) : r.fr ≤ rN b i ∧ rN b i ≤ r.un - lenOf r b i := of_decide_eq_true h
theorem takeH {P : Program} {md : Region.Mode} {ops : Array Oper} {Q : Exit → Act → World → Prop} {S : World → Prop} {i : Nat} {oi : Oper} {d : Nat} {v : Value} {fuel : Nat} {listed : Array Bool} {T : Array Value} {df : List Deferred} {w : World}
    (hi : ops[i]? = some oi) (hd : oi.dst = some d) (hs : Region.noSelect ops = true) (hf : Region.free md ops listed i = true) (hr : (Region.ready md ops listed).contains i = true)
    (hQ : ∀ c a w, Q (.panic c) (a.put oi.dst v) w → Q (.panic c) a w) (hw : Region.wanted oi (yielded ops T) = true) (hy : ∀ w, S w → (execOp (Act.eval ⟨T, df⟩) oi).run P w = .ok (.value v) w) (hS : S w)
    (h : wpAnyH P md ops Q S fuel (listed.setIfInBounds i true) ⟨T.setIfInBounds d v, df⟩ w) : wpAnyH P md ops Q S (fuel + 1) listed ⟨T, df⟩ w :=
  wpAnyH_take hi hs hf hr hQ (Or.inl ⟨hw, hy⟩) hS (by rw [hd]; exact h)
theorem skipH {P : Program} {md : Region.Mode} {ops : Array Oper} {Q : Exit → Act → World → Prop} {S : World → Prop} {i : Nat} {oi : Oper} {d : Nat} {fuel : Nat} {listed : Array Bool} {T : Array Value} {df : List Deferred} {w : World}
    (hi : ops[i]? = some oi) (hd : oi.dst = some d) (hs : Region.noSelect ops = true) (hf : Region.free md ops listed i = true) (hr : (Region.ready md ops listed).contains i = true)
    (hQ : ∀ c a w, Q (.panic c) (a.put oi.dst undef) w → Q (.panic c) a w) (hw : Region.wanted oi (yielded ops T) = false) (hS : S w)
    (h : wpAnyH P md ops Q S fuel (listed.setIfInBounds i true) ⟨T.setIfInBounds d undef, df⟩ w) : wpAnyH P md ops Q S (fuel + 1) listed ⟨T, df⟩ w :=
  wpAnyH_take hi hs hf hr hQ (Or.inr ⟨hw, rfl⟩) hS (by rw [hd]; exact h)
theorem below_drew1 {W w' : World} (h : Below (W.drewN 1).heap.size (W.drewN 1) w') : Below W.heap.size W w' := below_from (below_of_drawn ⟨1, rfl⟩) h
set_option maxHeartbeats 4000000 in
theorem Meets_some (w : World) (r : Rq) (h : RqIn w r) (bb bo bn bc : Nat) (b : RunL) (hb : RunsIn w (some ⟨bb, bo, none⟩) bn bc b) (hc0 : chkR false r = 0) (hbn : (bn : Int) = wantedN r) (hpos : 0 < bn) :
    Calls Tryz.prog 163 #[.agg #[.int .i64 r.queue, .int .i64 r.fr, .int .i64 r.un, .int .i64 r.kind, .slice r.pa r.pn r.pc], .slice (some ⟨bb, bo, none⟩) bn bc] w fun e w' => e = .returned (.bool (meets r b)) ∧ Below w.heap.size w w' := by
  have HN := hid hb.len
  have hle := hb.le
  have hcb := hb.capb
  have hpp : 0 < r.pn := by have := of_decide_eq_true (chkR_zero.1 hc0).2.1; have := h.len; omega
  obtain ⟨pb, po, hpa, hpc⟩ := h.cells hpp
  have HPC := hid hpc
  clear hpc
  have B1 := hid ((Below.refl w.heap.size w).alloc (Nat.le_refl _) (.cells #[.int .i64 r.queue, .int .i64 r.fr, .int .i64 r.un, .int .i64 r.kind, .slice (some ⟨pb, po, none⟩) r.pn r.pc] 24))
  have K1 := hid fun w1 (hb : Below w.heap.size w w1) => wrong_any w1 r (h.later hb)
  have K2 := hid fun w1 (hb : Below w.heap.size w w1) => wanted_any w1 r (h.later hb)
  have K3 := hid fun w1 (hb : Below w.heap.size w w1) p t => noPiece_any w1 r (h.later hb) p t
  have K4 := hid fun w1 (hb : Below w.heap.size w w1) p0 t0 p1 t1 => follows_any w1 r (h.later hb) p0 t0 p1 t1
  rw [hpa] at K1 K2 K3 K4
  rw [hpa]
  have KC : Hid (∀ X : World, Below (w.alloc (.cells #[.int .i64 r.queue, .int .i64 r.fr, .int .i64 r.un, .int .i64 r.kind, .slice (some ⟨pb, po, none⟩) r.pn r.pc] 24)).heap.size (w.alloc (.cells #[.int .i64 r.queue, .int .i64 r.fr, .int .i64 r.un, .int .i64 r.kind, .slice (some ⟨pb, po, none⟩) r.pn r.pc] 24)) X → X.cell? ⟨w.heap.size, 0, none⟩ = some (.int .i64 r.queue) ∧ X.cell? ⟨w.heap.size, 1, none⟩ = some (.int .i64 r.fr) ∧ X.cell? ⟨w.heap.size, 2, none⟩ = some (.int .i64 r.un) ∧ X.cell? ⟨w.heap.size, 3, none⟩ = some (.int .i64 r.kind) ∧ X.cell? ⟨w.heap.size, 4, none⟩ = some (.slice (some ⟨pb, po, none⟩) r.pn r.pc)) :=
    fun X B2 => ⟨cell_later B2 (by go_simp), cell_later B2 (by go_simp), cell_later B2 (by go_simp), cell_later B2 (by go_simp), cell_later B2 (by go_simp)⟩
  obtain ⟨b', off', e, hcc⟩ := hb.cells hpos
  cases e
  have HC := hid hcc
  clear hcc
  have HPN := hid h.len
  have hple := h.le
  have hpcb := h.capb
  have HC0 := hid hc0
  have HS := hid (spn_at hc0)
  have HBN := hid hbn
  have hx0 : decide (chkR false r ≠ 0) = false := by rw [hc0]; rfl
  rw [hx0] at K1
  rw [← hbn] at K2
  clear hx0 hc0 hbn hpa h hb
  go_enter Tryz.func163, Tryz.ntmps163
  go_wp2_with fail
  refine (K1.out _ B1.out).mono ?_
  rintro e w1 ⟨rfl, B2⟩
  have B3 := hid (below_from B1.out B2)
  have B2H := hid B2
  obtain ⟨c0, c1, c2, c3, c4⟩ := KC.out w1 B2
  clear B2
  go_wp2_with fail
  refine (K2.out w1 B3.out).mono ?_
  rintro e w2 ⟨rfl, B4⟩
  have B5 := hid (below_from B2H.out B4)
  clear B4 B3 B2H c0 c1 c2 c3 c4
  go_wp2_with fail
  obtain ⟨W0, hW0⟩ : ∃ W0, W0 = w.alloc (.cells #[.int .i64 r.queue, .int .i64 r.fr, .int .i64 r.un, .int .i64 r.kind, .slice (some ⟨pb, po, none⟩) r.pn r.pc] 24) := ⟨_, rfl⟩
  have hsz0 : w.heap.size < W0.heap.size := by rw [hW0]; simp
  rw [← hW0] at B5 KC B1
  have HCB : Hid (∀ i, i < bn → W0.cell? ⟨bb, bo + i * 2, none⟩ = some (.int .i64 (rAt b i)) ∧ W0.cell? ⟨bb, bo + i * 2 + 1, none⟩ = some (.int .i64 (rN b i))) := fun i hi => ⟨cell_later B1.out (HC.out i hi).1, cell_later B1.out (HC.out i hi).2⟩
  have HPB : Hid (∀ i, i < r.pn → W0.cell? ⟨pb, po + i * 2, none⟩ = some (.int .i64 (rAt r.ps i))) := fun i hi => cell_later B1.out (HPC.out i hi).1
  clear HC HPC hW0 K1 K2
  go_loopw [18] (fun st wr => ∃ j : Nat, st = .int .i64 j ∧ j ≤ bn ∧ allN (biteOk r b) j = true ∧ Below W0.heap.size W0 wr) (fun st _ => bn - (intOf st).toNat)
  case atStart => exact ⟨0, rfl, by omega, rfl, B5.out⟩
  case round =>
    clear B5
    obtain ⟨j, rfl, hj, hall, hbel⟩ := hrel
    have HA := hid hall
    have HB := hid hbel
    clear hall hbel
    by_cases hlt : j < bn
    · have hlt' : (j : Int) < bn := by omega
      have d0 := cell_later HB.out (HCB.out j hlt).1
      have d1 := cell_later HB.out (HCB.out j hlt).2
      obtain ⟨pj, hpj⟩ : ∃ x, rAt b j = x := ⟨_, rfl⟩
      obtain ⟨tj, htj⟩ : ∃ x, rN b j = x := ⟨_, rfl⟩
      rw [hpj] at d0
      rw [htj] at d1
      have HPJ := hid hpj
      have HTJ := hid htj
      clear hpj htj
      obtain ⟨W2, hW2⟩ : ∃ W2, W2 = wr.alloc (.cells #[.int .i64 pj, .int .i64 tj] 62) := ⟨_, rfl⟩
      have hsz2 : wr.heap.size < W2.heap.size := by rw [hW2]; simp
      have HB2 : Hid (Below W0.heap.size W0 W2) := by show Below W0.heap.size W0 W2; rw [hW2]; exact HB.out.alloc HB.out.size _
      have B6 := hid (below_from B1.out HB2.out)
      have E0 : Hid (W2.cell? ⟨wr.heap.size, 0, none⟩ = some (.int .i64 pj)) := by show W2.cell? ⟨wr.heap.size, 0, none⟩ = some (.int .i64 pj); rw [hW2]; go_simp
      have E1 : Hid (W2.cell? ⟨wr.heap.size, 1, none⟩ = some (.int .i64 tj)) := by show W2.cell? ⟨wr.heap.size, 1, none⟩ = some (.int .i64 tj); rw [hW2]; go_simp
      cases g : wth pj 0 ((r.ps.length : Int) - 1) with
      | false =>
        have KK : Hid (∀ w1, Below w.heap.size w w1 → Calls Tryz.prog 135 #[.agg #[.int .i64 r.queue, .int .i64 r.fr, .int .i64 r.un, .int .i64 r.kind, .slice (some ⟨pb, po, none⟩) r.pn r.pc], .agg #[.int .i64 pj, .int .i64 tj]] w1 fun e w' => e = .returned (.bool true) ∧ Below w1.heap.size w1 w') := fun w1 h1 => by have := K3.out w1 h1 pj tj; rw [g] at this; exact this
        have HR := hid (meets_bad HN hlt (show biteOk r b j = false by rw [biteOk, isPiece, HPJ.out, g]; rfl))
        go_wp2_with fail
        rw [← hW2]
        clear hW2 d0 d1
        obtain ⟨c0, c1, c2, c3, c4⟩ := KC.out W2 HB2.out
        have e0 := E0.out
        have e1 := E1.out
        refine wp_region_held_drew (S := (fun X => Below w.heap.size w X ∧ X.cell? ⟨w.heap.size, 0, none⟩ = some (.int .i64 r.queue) ∧ X.cell? ⟨w.heap.size, 1, none⟩ = some (.int .i64 r.fr) ∧ X.cell? ⟨w.heap.size, 2, none⟩ = some (.int .i64 r.un) ∧ X.cell? ⟨w.heap.size, 3, none⟩ = some (.int .i64 r.kind) ∧ X.cell? ⟨w.heap.size, 4, none⟩ = some (.slice (some ⟨pb, po, none⟩) r.pn r.pc) ∧ X.cell? ⟨wr.heap.size, 0, none⟩ = some (.int .i64 pj) ∧ X.cell? ⟨wr.heap.size, 1, none⟩ = some (.int .i64 tj))) (by kernel_rfl) ⟨below_drewN B6.out 1, c0, c1, c2, c3, c4, e0, e1⟩ (fun hHeld => ?_)
        refine takeH (i := 0) (oi := { dst := some 23, op := Op.load 24 (Operand.tmp 2), type := 24, pos := "req.go:26", after := #[], guard := none }) (d := 23) (v := .agg #[.int .i64 r.queue, .int .i64 r.fr, .int .i64 r.un, .int .i64 r.kind, .slice (some ⟨pb, po, none⟩) r.pn r.pc]) rfl rfl (by kernel_rfl) (by kernel_rfl) (by kernel_rfl) (fun _ _ _ h => h) (by rfl) (fun w hSw => by (try dsimp only at hSw); go_simp) hHeld ?_
        simp only [List.setIfInBounds_toArray, List.set_cons_zero, List.set_cons_succ]
        refine takeH (i := 1) (oi := { dst := some 24, op := Op.load 62 (Operand.tmp 6), type := 62, pos := "req.go:26", after := #[], guard := none }) (d := 24) (v := .agg #[.int .i64 pj, .int .i64 tj]) rfl rfl (by kernel_rfl) (by kernel_rfl) (by kernel_rfl) (fun _ _ _ h => h) (by rfl) (fun w hSw => by (try dsimp only at hSw); go_simp) hHeld ?_
        simp only [List.setIfInBounds_toArray, List.set_cons_zero, List.set_cons_succ]
        refine wpAnyH_ready (rs := [2]) (by kernel_rfl) (by simp) (AllReadyH.cons (o := { dst := some 25, op := Op.call { callee := Callee.value (Operand.func 135), args := #[Operand.tmp 23, Operand.tmp 24], argTypes := #[24, 62] }, type := 4, pos := "req.go:26", after := #[{ on := 0, ground := Ground.data }, { on := 1, ground := Ground.data }], guard := none }) rfl (fun K hK => ?_) AllReadyH.nil)
        go_simp
        refine (KK.out _ (below_drewN B6.out 1)).mono ?_
        rintro e w' ⟨rfl, BB⟩
        go_simp
        refine hK.out _ _ ⟨below_from (below_drewN B6.out 1) BB, cell_later BB c0, cell_later BB c1, cell_later BB c2, cell_later BB c3, cell_later BB c4, cell_later BB e0, cell_later BB e1⟩ (fun hHeld => ?_)
        clear hK
        refine takeH (i := 3) (oi := { dst := some 26, op := Op.move (Operand.tmp 25), type := 4, pos := "req.go:26", after := #[{ on := 2, ground := Ground.data }, { on := 2, ground := Ground.chain }], guard := none }) (d := 26) (v := .bool true) rfl rfl (by kernel_rfl) (by kernel_rfl) (by kernel_rfl) (fun _ _ _ h => h) (by rfl) (fun w hSw => by (try dsimp only at hSw); go_simp) hHeld ?_
        simp only [List.setIfInBounds_toArray, List.set_cons_zero, List.set_cons_succ]
        refine skipH (i := 4) (oi := { dst := some 27, op := Op.fieldAddr 62 (Operand.tmp 6) 1, type := 0, pos := "req.go:26", after := #[{ on := 3, ground := Ground.guard }], guard := some (3, false) }) (d := 27) rfl rfl (by kernel_rfl) (by kernel_rfl) (by kernel_rfl) (fun _ _ _ h => h) (by rfl) hHeld ?_
        simp only [List.setIfInBounds_toArray, List.set_cons_zero, List.set_cons_succ]
        refine skipH (i := 5) (oi := { dst := some 28, op := Op.load 3 (Operand.tmp 27), type := 3, pos := "req.go:26", after := #[{ on := 4, ground := Ground.data }, { on := 3, ground := Ground.guard }], guard := some (3, false) }) (d := 28) rfl rfl (by kernel_rfl) (by kernel_rfl) (by kernel_rfl) (fun _ _ _ h => h) (by rfl) hHeld ?_
        simp only [List.setIfInBounds_toArray, List.set_cons_zero, List.set_cons_succ]
        refine skipH (i := 6) (oi := { dst := some 29, op := Op.fieldAddr 24 (Operand.tmp 2) 1, type := 0, pos := "req.go:26", after := #[{ on := 3, ground := Ground.guard }], guard := some (3, false) }) (d := 29) rfl rfl (by kernel_rfl) (by kernel_rfl) (by kernel_rfl) (fun _ _ _ h => h) (by rfl) hHeld ?_
        simp only [List.setIfInBounds_toArray, List.set_cons_zero, List.set_cons_succ]
        refine skipH (i := 7) (oi := { dst := some 30, op := Op.load 3 (Operand.tmp 29), type := 3, pos := "req.go:26", after := #[{ on := 6, ground := Ground.data }, { on := 3, ground := Ground.guard }], guard := some (3, false) }) (d := 30) rfl rfl (by kernel_rfl) (by kernel_rfl) (by kernel_rfl) (fun _ _ _ h => h) (by rfl) hHeld ?_
        simp only [List.setIfInBounds_toArray, List.set_cons_zero, List.set_cons_succ]
        refine skipH (i := 8) (oi := { dst := some 31, op := Op.binOp BinOp.lss 3 (Operand.tmp 28) (Operand.tmp 30) 3, type := 4, pos := "req.go:26", after := #[{ on := 5, ground := Ground.data }, { on := 7, ground := Ground.data }, { on := 3, ground := Ground.guard }], guard := some (3, false) }) (d := 31) rfl rfl (by kernel_rfl) (by kernel_rfl) (by kernel_rfl) (fun _ _ _ h => h) (by rfl) hHeld ?_
        simp only [List.setIfInBounds_toArray, List.set_cons_zero, List.set_cons_succ]
        refine takeH (i := 9) (oi := { dst := some 32, op := Op.pick (Operand.tmp 26) (Operand.const (Value.bool true)) (Operand.tmp 31), type := 4, pos := "req.go:26", after := #[{ on := 3, ground := Ground.data }, { on := 8, ground := Ground.data }], guard := none }) (d := 32) (v := .bool true) rfl rfl (by kernel_rfl) (by kernel_rfl) (by kernel_rfl) (fun _ _ _ h => h) (by rfl) (fun w hSw => by (try dsimp only at hSw); go_simp) hHeld ?_
        simp only [List.setIfInBounds_toArray, List.set_cons_zero, List.set_cons_succ]
        refine takeH (i := 10) (oi := { dst := some 33, op := Op.move (Operand.tmp 32), type := 4, pos := "req.go:26", after := #[{ on := 9, ground := Ground.data }, { on := 3, ground := Ground.chain }], guard := none }) (d := 33) (v := .bool true) rfl rfl (by kernel_rfl) (by kernel_rfl) (by kernel_rfl) (fun _ _ _ h => h) (by rfl) (fun w hSw => by (try dsimp only at hSw); go_simp) hHeld ?_
        simp only [List.setIfInBounds_toArray, List.set_cons_zero, List.set_cons_succ]
        refine skipH (i := 11) (oi := { dst := some 34, op := Op.fieldAddr 62 (Operand.tmp 6) 1, type := 0, pos := "req.go:26", after := #[{ on := 10, ground := Ground.guard }], guard := some (10, false) }) (d := 34) rfl rfl (by kernel_rfl) (by kernel_rfl) (by kernel_rfl) (fun _ _ _ h => h) (by rfl) hHeld ?_
        simp only [List.setIfInBounds_toArray, List.set_cons_zero, List.set_cons_succ]
        refine skipH (i := 12) (oi := { dst := some 35, op := Op.load 3 (Operand.tmp 34), type := 3, pos := "req.go:26", after := #[{ on := 11, ground := Ground.data }, { on := 10, ground := Ground.guard }], guard := some (10, false) }) (d := 35) rfl rfl (by kernel_rfl) (by kernel_rfl) (by kernel_rfl) (fun _ _ _ h => h) (by rfl) hHeld ?_
        simp only [List.setIfInBounds_toArray, List.set_cons_zero, List.set_cons_succ]
        refine skipH (i := 13) (oi := { dst := some 36, op := Op.fieldAddr 24 (Operand.tmp 2) 2, type := 0, pos := "req.go:26", after := #[{ on := 10, ground := Ground.guard }], guard := some (10, false) }) (d := 36) rfl rfl (by kernel_rfl) (by kernel_rfl) (by kernel_rfl) (fun _ _ _ h => h) (by rfl) hHeld ?_
        simp only [List.setIfInBounds_toArray, List.set_cons_zero, List.set_cons_succ]
        refine skipH (i := 14) (oi := { dst := some 37, op := Op.load 3 (Operand.tmp 36), type := 3, pos := "req.go:26", after := #[{ on := 13, ground := Ground.data }, { on := 10, ground := Ground.guard }], guard := some (10, false) }) (d := 37) rfl rfl (by kernel_rfl) (by kernel_rfl) (by kernel_rfl) (fun _ _ _ h => h) (by rfl) hHeld ?_
        simp only [List.setIfInBounds_toArray, List.set_cons_zero, List.set_cons_succ]
        refine skipH (i := 15) (oi := { dst := some 38, op := Op.fieldAddr 24 (Operand.tmp 2) 4, type := 0, pos := "req.go:26", after := #[{ on := 10, ground := Ground.guard }], guard := some (10, false) }) (d := 38) rfl rfl (by kernel_rfl) (by kernel_rfl) (by kernel_rfl) (fun _ _ _ h => h) (by rfl) hHeld ?_
        simp only [List.setIfInBounds_toArray, List.set_cons_zero, List.set_cons_succ]
        refine skipH (i := 16) (oi := { dst := some 39, op := Op.load 22 (Operand.tmp 38), type := 22, pos := "req.go:26", after := #[{ on := 15, ground := Ground.data }, { on := 10, ground := Ground.guard }], guard := some (10, false) }) (d := 39) rfl rfl (by kernel_rfl) (by kernel_rfl) (by kernel_rfl) (fun _ _ _ h => h) (by rfl) hHeld ?_
        simp only [List.setIfInBounds_toArray, List.set_cons_zero, List.set_cons_succ]
        refine skipH (i := 17) (oi := { dst := some 40, op := Op.fieldAddr 62 (Operand.tmp 6) 0, type := 0, pos := "req.go:26", after := #[{ on := 10, ground := Ground.guard }], guard := some (10, false) }) (d := 40) rfl rfl (by kernel_rfl) (by kernel_rfl) (by kernel_rfl) (fun _ _ _ h => h) (by rfl) hHeld ?_
        simp only [List.setIfInBounds_toArray, List.set_cons_zero, List.set_cons_succ]
        refine skipH (i := 18) (oi := { dst := some 41, op := Op.load 3 (Operand.tmp 40), type := 3, pos := "req.go:26", after := #[{ on := 17, ground := Ground.data }, { on := 10, ground := Ground.guard }], guard := some (10, false) }) (d := 41) rfl rfl (by kernel_rfl) (by kernel_rfl) (by kernel_rfl) (fun _ _ _ h => h) (by rfl) hHeld ?_
        simp only [List.setIfInBounds_toArray, List.set_cons_zero, List.set_cons_succ]
        refine skipH (i := 19) (oi := { dst := some 42, op := Op.indexAddr 22 (Operand.tmp 39) (Operand.tmp 41), type := 0, pos := "req.go:26", after := #[{ on := 16, ground := Ground.data }, { on := 18, ground := Ground.data }, { on := 10, ground := Ground.guard }], guard := some (10, false) }) (d := 42) rfl rfl (by kernel_rfl) (by kernel_rfl) (by kernel_rfl) (fun _ _ _ h => h) (by rfl) hHeld ?_
        simp only [List.setIfInBounds_toArray, List.set_cons_zero, List.set_cons_succ]
        refine skipH (i := 20) (oi := { dst := some 43, op := Op.fieldAddr 64 (Operand.tmp 42) 0, type := 0, pos := "req.go:26", after := #[{ on := 19, ground := Ground.data }, { on := 10, ground := Ground.guard }], guard := some (10, false) }) (d := 43) rfl rfl (by kernel_rfl) (by kernel_rfl) (by kernel_rfl) (fun _ _ _ h => h) (by rfl) hHeld ?_
        simp only [List.setIfInBounds_toArray, List.set_cons_zero, List.set_cons_succ]
        refine skipH (i := 21) (oi := { dst := some 44, op := Op.load 3 (Operand.tmp 43), type := 3, pos := "req.go:26", after := #[{ on := 20, ground := Ground.data }, { on := 10, ground := Ground.guard }], guard := some (10, false) }) (d := 44) rfl rfl (by kernel_rfl) (by kernel_rfl) (by kernel_rfl) (fun _ _ _ h => h) (by rfl) hHeld ?_
        simp only [List.setIfInBounds_toArray, List.set_cons_zero, List.set_cons_succ]
        refine skipH (i := 22) (oi := { dst := some 45, op := Op.binOp BinOp.sub 3 (Operand.tmp 37) (Operand.tmp 44) 3, type := 3, pos := "req.go:26", after := #[{ on := 14, ground := Ground.data }, { on := 21, ground := Ground.data }, { on := 10, ground := Ground.guard }], guard := some (10, false) }) (d := 45) rfl rfl (by kernel_rfl) (by kernel_rfl) (by kernel_rfl) (fun _ _ _ h => h) (by rfl) hHeld ?_
        simp only [List.setIfInBounds_toArray, List.set_cons_zero, List.set_cons_succ]
        refine skipH (i := 23) (oi := { dst := some 46, op := Op.binOp BinOp.gtr 3 (Operand.tmp 35) (Operand.tmp 45) 3, type := 4, pos := "req.go:26", after := #[{ on := 12, ground := Ground.data }, { on := 22, ground := Ground.data }, { on := 10, ground := Ground.guard }], guard := some (10, false) }) (d := 46) rfl rfl (by kernel_rfl) (by kernel_rfl) (by kernel_rfl) (fun _ _ _ h => h) (by rfl) hHeld ?_
        simp only [List.setIfInBounds_toArray, List.set_cons_zero, List.set_cons_succ]
        refine takeH (i := 24) (oi := { dst := some 47, op := Op.pick (Operand.tmp 33) (Operand.const (Value.bool true)) (Operand.tmp 46), type := 4, pos := "req.go:26", after := #[{ on := 10, ground := Ground.data }, { on := 23, ground := Ground.data }], guard := none }) (d := 47) (v := .bool true) rfl rfl (by kernel_rfl) (by kernel_rfl) (by kernel_rfl) (fun _ _ _ h => h) (by rfl) (fun w hSw => by (try dsimp only at hSw); go_simp) hHeld ?_
        simp only [List.setIfInBounds_toArray, List.set_cons_zero, List.set_cons_succ]
        refine wpAnyH_done (by kernel_rfl) ?_ _
        have B9 := hid (below_from HB2.out (below_drew1 BB))
        clear hHeld BB c0 c1 c2 c3 c4 e0 e1
        go_wp2
        go_ret
        exact ⟨ret_bool HR.out.symm, below_from B1.out B9.out⟩
      | true =>
        have hpw := of_decide_eq_true g
        obtain ⟨P, rfl⟩ := Int.eq_ofNat_of_zero_le hpw.1
        have hP : P < r.pn := by have := HPN.out; omega
        have hP' : (P : Int) < r.pn := by omega
        obtain ⟨L, hL⟩ : ∃ L, rAt r.ps P = L := ⟨_, rfl⟩
        have hLb : 1 ≤ L ∧ L ≤ 24 := by have := piece_at HC0.out (k := P) (by have := HPN.out; omega); omega
        have q0 : W2.cell? ⟨pb, po + P * 2, none⟩ = some (.int .i64 L) := by rw [← hL]; exact cell_later HB2.out (HPB.out P hP)
        have HLE : Hid (lenOf r b j = L) := by show lenOf r b j = L; rw [lenOf, HPJ.out, Int.toNat_natCast, hL]
        have hwr : IntKind.i64.wrap (r.un - L) = r.un - L := by have := HS.out; rw [IntKind.wrap_i64]; omega
        have KK : Hid (∀ w1, Below w.heap.size w w1 → Calls Tryz.prog 135 #[.agg #[.int .i64 r.queue, .int .i64 r.fr, .int .i64 r.un, .int .i64 r.kind, .slice (some ⟨pb, po, none⟩) r.pn r.pc], .agg #[.int .i64 P, .int .i64 tj]] w1 fun e w' => e = .returned (.bool false) ∧ Below w1.heap.size w1 w') := fun w1 h1 => by have := K3.out w1 h1 P tj; rw [g] at this; exact this
        have Q0 := hid q0
        have HLB := hid hLb
        clear hL hpw q0 hLb
        by_cases g1 : tj < r.fr
        · have HR := hid (meets_bad HN hlt (show biteOk r b j = false by
            have : inTime r b j = false := decide_eq_false (by rw [HTJ.out]; omega)
            rw [biteOk, this]; simp))
          go_wp2_with fail
          rw [← hW2]
          clear hW2 d0 d1
          obtain ⟨c0, c1, c2, c3, c4⟩ := KC.out W2 HB2.out
          have e0 := E0.out
          have e1 := E1.out
          have q0 := Q0.out
          refine wp_region_held_drew (S := (fun X => Below w.heap.size w X ∧ X.cell? ⟨w.heap.size, 0, none⟩ = some (.int .i64 r.queue) ∧ X.cell? ⟨w.heap.size, 1, none⟩ = some (.int .i64 r.fr) ∧ X.cell? ⟨w.heap.size, 2, none⟩ = some (.int .i64 r.un) ∧ X.cell? ⟨w.heap.size, 3, none⟩ = some (.int .i64 r.kind) ∧ X.cell? ⟨w.heap.size, 4, none⟩ = some (.slice (some ⟨pb, po, none⟩) r.pn r.pc) ∧ X.cell? ⟨wr.heap.size, 0, none⟩ = some (.int .i64 P) ∧ X.cell? ⟨wr.heap.size, 1, none⟩ = some (.int .i64 tj))) (by kernel_rfl) ⟨below_drewN B6.out 1, c0, c1, c2, c3, c4, e0, e1⟩ (fun hHeld => ?_)
          refine takeH (i := 0) (oi := { dst := some 23, op := Op.load 24 (Operand.tmp 2), type := 24, pos := "req.go:26", after := #[], guard := none }) (d := 23) (v := .agg #[.int .i64 r.queue, .int .i64 r.fr, .int .i64 r.un, .int .i64 r.kind, .slice (some ⟨pb, po, none⟩) r.pn r.pc]) rfl rfl (by kernel_rfl) (by kernel_rfl) (by kernel_rfl) (fun _ _ _ h => h) (by rfl) (fun w hSw => by (try dsimp only at hSw); go_simp) hHeld ?_
          simp only [List.setIfInBounds_toArray, List.set_cons_zero, List.set_cons_succ]
          refine takeH (i := 1) (oi := { dst := some 24, op := Op.load 62 (Operand.tmp 6), type := 62, pos := "req.go:26", after := #[], guard := none }) (d := 24) (v := .agg #[.int .i64 P, .int .i64 tj]) rfl rfl (by kernel_rfl) (by kernel_rfl) (by kernel_rfl) (fun _ _ _ h => h) (by rfl) (fun w hSw => by (try dsimp only at hSw); go_simp) hHeld ?_
          simp only [List.setIfInBounds_toArray, List.set_cons_zero, List.set_cons_succ]
          refine wpAnyH_ready (rs := [2]) (by kernel_rfl) (by simp) (AllReadyH.cons (o := { dst := some 25, op := Op.call { callee := Callee.value (Operand.func 135), args := #[Operand.tmp 23, Operand.tmp 24], argTypes := #[24, 62] }, type := 4, pos := "req.go:26", after := #[{ on := 0, ground := Ground.data }, { on := 1, ground := Ground.data }], guard := none }) rfl (fun K hK => ?_) AllReadyH.nil)
          go_simp
          refine (KK.out _ (below_drewN B6.out 1)).mono ?_
          rintro e w' ⟨rfl, BB⟩
          go_simp
          refine hK.out _ _ ⟨below_from (below_drewN B6.out 1) BB, cell_later BB c0, cell_later BB c1, cell_later BB c2, cell_later BB c3, cell_later BB c4, cell_later BB e0, cell_later BB e1⟩ (fun hHeld => ?_)
          clear hK
          refine takeH (i := 3) (oi := { dst := some 26, op := Op.move (Operand.tmp 25), type := 4, pos := "req.go:26", after := #[{ on := 2, ground := Ground.data }, { on := 2, ground := Ground.chain }], guard := none }) (d := 26) (v := .bool false) rfl rfl (by kernel_rfl) (by kernel_rfl) (by kernel_rfl) (fun _ _ _ h => h) (by rfl) (fun w hSw => by (try dsimp only at hSw); go_simp) hHeld ?_
          simp only [List.setIfInBounds_toArray, List.set_cons_zero, List.set_cons_succ]
          refine takeH (i := 4) (oi := { dst := some 27, op := Op.fieldAddr 62 (Operand.tmp 6) 1, type := 0, pos := "req.go:26", after := #[{ on := 3, ground := Ground.guard }], guard := some (3, false) }) (d := 27) (v := .pointer (some ⟨wr.heap.size, 1, none⟩)) rfl rfl (by kernel_rfl) (by kernel_rfl) (by kernel_rfl) (fun _ _ _ h => h) (by rfl) (fun w hSw => by (try dsimp only at hSw); go_simp) hHeld ?_
          simp only [List.setIfInBounds_toArray, List.set_cons_zero, List.set_cons_succ]
          refine takeH (i := 5) (oi := { dst := some 28, op := Op.load 3 (Operand.tmp 27), type := 3, pos := "req.go:26", after := #[{ on := 4, ground := Ground.data }, { on := 3, ground := Ground.guard }], guard := some (3, false) }) (d := 28) (v := .int .i64 tj) rfl rfl (by kernel_rfl) (by kernel_rfl) (by kernel_rfl) (fun _ _ _ h => h) (by rfl) (fun w hSw => by (try dsimp only at hSw); go_simp) hHeld ?_
          simp only [List.setIfInBounds_toArray, List.set_cons_zero, List.set_cons_succ]
          refine takeH (i := 6) (oi := { dst := some 29, op := Op.fieldAddr 24 (Operand.tmp 2) 1, type := 0, pos := "req.go:26", after := #[{ on := 3, ground := Ground.guard }], guard := some (3, false) }) (d := 29) (v := .pointer (some ⟨w.heap.size, 1, none⟩)) rfl rfl (by kernel_rfl) (by kernel_rfl) (by kernel_rfl) (fun _ _ _ h => h) (by rfl) (fun w hSw => by (try dsimp only at hSw); go_simp) hHeld ?_
          simp only [List.setIfInBounds_toArray, List.set_cons_zero, List.set_cons_succ]
          refine takeH (i := 7) (oi := { dst := some 30, op := Op.load 3 (Operand.tmp 29), type := 3, pos := "req.go:26", after := #[{ on := 6, ground := Ground.data }, { on := 3, ground := Ground.guard }], guard := some (3, false) }) (d := 30) (v := .int .i64 r.fr) rfl rfl (by kernel_rfl) (by kernel_rfl) (by kernel_rfl) (fun _ _ _ h => h) (by rfl) (fun w hSw => by (try dsimp only at hSw); go_simp) hHeld ?_
          simp only [List.setIfInBounds_toArray, List.set_cons_zero, List.set_cons_succ]
          refine takeH (i := 8) (oi := { dst := some 31, op := Op.binOp BinOp.lss 3 (Operand.tmp 28) (Operand.tmp 30) 3, type := 4, pos := "req.go:26", after := #[{ on := 5, ground := Ground.data }, { on := 7, ground := Ground.data }, { on := 3, ground := Ground.guard }], guard := some (3, false) }) (d := 31) (v := .bool true) rfl rfl (by kernel_rfl) (by kernel_rfl) (by kernel_rfl) (fun _ _ _ h => h) (by rfl) (fun w hSw => by (try dsimp only at hSw); go_simp) hHeld ?_
          simp only [List.setIfInBounds_toArray, List.set_cons_zero, List.set_cons_succ]
          refine takeH (i := 9) (oi := { dst := some 32, op := Op.pick (Operand.tmp 26) (Operand.const (Value.bool true)) (Operand.tmp 31), type := 4, pos := "req.go:26", after := #[{ on := 3, ground := Ground.data }, { on := 8, ground := Ground.data }], guard := none }) (d := 32) (v := .bool true) rfl rfl (by kernel_rfl) (by kernel_rfl) (by kernel_rfl) (fun _ _ _ h => h) (by rfl) (fun w hSw => by (try dsimp only at hSw); go_simp) hHeld ?_
          simp only [List.setIfInBounds_toArray, List.set_cons_zero, List.set_cons_succ]
          refine takeH (i := 10) (oi := { dst := some 33, op := Op.move (Operand.tmp 32), type := 4, pos := "req.go:26", after := #[{ on := 9, ground := Ground.data }, { on := 3, ground := Ground.chain }], guard := none }) (d := 33) (v := .bool true) rfl rfl (by kernel_rfl) (by kernel_rfl) (by kernel_rfl) (fun _ _ _ h => h) (by rfl) (fun w hSw => by (try dsimp only at hSw); go_simp) hHeld ?_
          simp only [List.setIfInBounds_toArray, List.set_cons_zero, List.set_cons_succ]
          refine skipH (i := 11) (oi := { dst := some 34, op := Op.fieldAddr 62 (Operand.tmp 6) 1, type := 0, pos := "req.go:26", after := #[{ on := 10, ground := Ground.guard }], guard := some (10, false) }) (d := 34) rfl rfl (by kernel_rfl) (by kernel_rfl) (by kernel_rfl) (fun _ _ _ h => h) (by rfl) hHeld ?_
          simp only [List.setIfInBounds_toArray, List.set_cons_zero, List.set_cons_succ]
          refine skipH (i := 12) (oi := { dst := some 35, op := Op.load 3 (Operand.tmp 34), type := 3, pos := "req.go:26", after := #[{ on := 11, ground := Ground.data }, { on := 10, ground := Ground.guard }], guard := some (10, false) }) (d := 35) rfl rfl (by kernel_rfl) (by kernel_rfl) (by kernel_rfl) (fun _ _ _ h => h) (by rfl) hHeld ?_
          simp only [List.setIfInBounds_toArray, List.set_cons_zero, List.set_cons_succ]
          refine skipH (i := 13) (oi := { dst := some 36, op := Op.fieldAddr 24 (Operand.tmp 2) 2, type := 0, pos := "req.go:26", after := #[{ on := 10, ground := Ground.guard }], guard := some (10, false) }) (d := 36) rfl rfl (by kernel_rfl) (by kernel_rfl) (by kernel_rfl) (fun _ _ _ h => h) (by rfl) hHeld ?_
          simp only [List.setIfInBounds_toArray, List.set_cons_zero, List.set_cons_succ]
          refine skipH (i := 14) (oi := { dst := some 37, op := Op.load 3 (Operand.tmp 36), type := 3, pos := "req.go:26", after := #[{ on := 13, ground := Ground.data }, { on := 10, ground := Ground.guard }], guard := some (10, false) }) (d := 37) rfl rfl (by kernel_rfl) (by kernel_rfl) (by kernel_rfl) (fun _ _ _ h => h) (by rfl) hHeld ?_
          simp only [List.setIfInBounds_toArray, List.set_cons_zero, List.set_cons_succ]
          refine skipH (i := 15) (oi := { dst := some 38, op := Op.fieldAddr 24 (Operand.tmp 2) 4, type := 0, pos := "req.go:26", after := #[{ on := 10, ground := Ground.guard }], guard := some (10, false) }) (d := 38) rfl rfl (by kernel_rfl) (by kernel_rfl) (by kernel_rfl) (fun _ _ _ h => h) (by rfl) hHeld ?_
          simp only [List.setIfInBounds_toArray, List.set_cons_zero, List.set_cons_succ]
          refine skipH (i := 16) (oi := { dst := some 39, op := Op.load 22 (Operand.tmp 38), type := 22, pos := "req.go:26", after := #[{ on := 15, ground := Ground.data }, { on := 10, ground := Ground.guard }], guard := some (10, false) }) (d := 39) rfl rfl (by kernel_rfl) (by kernel_rfl) (by kernel_rfl) (fun _ _ _ h => h) (by rfl) hHeld ?_
          simp only [List.setIfInBounds_toArray, List.set_cons_zero, List.set_cons_succ]
          refine skipH (i := 17) (oi := { dst := some 40, op := Op.fieldAddr 62 (Operand.tmp 6) 0, type := 0, pos := "req.go:26", after := #[{ on := 10, ground := Ground.guard }], guard := some (10, false) }) (d := 40) rfl rfl (by kernel_rfl) (by kernel_rfl) (by kernel_rfl) (fun _ _ _ h => h) (by rfl) hHeld ?_
          simp only [List.setIfInBounds_toArray, List.set_cons_zero, List.set_cons_succ]
          refine skipH (i := 18) (oi := { dst := some 41, op := Op.load 3 (Operand.tmp 40), type := 3, pos := "req.go:26", after := #[{ on := 17, ground := Ground.data }, { on := 10, ground := Ground.guard }], guard := some (10, false) }) (d := 41) rfl rfl (by kernel_rfl) (by kernel_rfl) (by kernel_rfl) (fun _ _ _ h => h) (by rfl) hHeld ?_
          simp only [List.setIfInBounds_toArray, List.set_cons_zero, List.set_cons_succ]
          refine skipH (i := 19) (oi := { dst := some 42, op := Op.indexAddr 22 (Operand.tmp 39) (Operand.tmp 41), type := 0, pos := "req.go:26", after := #[{ on := 16, ground := Ground.data }, { on := 18, ground := Ground.data }, { on := 10, ground := Ground.guard }], guard := some (10, false) }) (d := 42) rfl rfl (by kernel_rfl) (by kernel_rfl) (by kernel_rfl) (fun _ _ _ h => h) (by rfl) hHeld ?_
          simp only [List.setIfInBounds_toArray, List.set_cons_zero, List.set_cons_succ]
          refine skipH (i := 20) (oi := { dst := some 43, op := Op.fieldAddr 64 (Operand.tmp 42) 0, type := 0, pos := "req.go:26", after := #[{ on := 19, ground := Ground.data }, { on := 10, ground := Ground.guard }], guard := some (10, false) }) (d := 43) rfl rfl (by kernel_rfl) (by kernel_rfl) (by kernel_rfl) (fun _ _ _ h => h) (by rfl) hHeld ?_
          simp only [List.setIfInBounds_toArray, List.set_cons_zero, List.set_cons_succ]
          refine skipH (i := 21) (oi := { dst := some 44, op := Op.load 3 (Operand.tmp 43), type := 3, pos := "req.go:26", after := #[{ on := 20, ground := Ground.data }, { on := 10, ground := Ground.guard }], guard := some (10, false) }) (d := 44) rfl rfl (by kernel_rfl) (by kernel_rfl) (by kernel_rfl) (fun _ _ _ h => h) (by rfl) hHeld ?_
          simp only [List.setIfInBounds_toArray, List.set_cons_zero, List.set_cons_succ]
          refine skipH (i := 22) (oi := { dst := some 45, op := Op.binOp BinOp.sub 3 (Operand.tmp 37) (Operand.tmp 44) 3, type := 3, pos := "req.go:26", after := #[{ on := 14, ground := Ground.data }, { on := 21, ground := Ground.data }, { on := 10, ground := Ground.guard }], guard := some (10, false) }) (d := 45) rfl rfl (by kernel_rfl) (by kernel_rfl) (by kernel_rfl) (fun _ _ _ h => h) (by rfl) hHeld ?_
          simp only [List.setIfInBounds_toArray, List.set_cons_zero, List.set_cons_succ]
          refine skipH (i := 23) (oi := { dst := some 46, op := Op.binOp BinOp.gtr 3 (Operand.tmp 35) (Operand.tmp 45) 3, type := 4, pos := "req.go:26", after := #[{ on := 12, ground := Ground.data }, { on := 22, ground := Ground.data }, { on := 10, ground := Ground.guard }], guard := some (10, false) }) (d := 46) rfl rfl (by kernel_rfl) (by kernel_rfl) (by kernel_rfl) (fun _ _ _ h => h) (by rfl) hHeld ?_
          simp only [List.setIfInBounds_toArray, List.set_cons_zero, List.set_cons_succ]
          refine takeH (i := 24) (oi := { dst := some 47, op := Op.pick (Operand.tmp 33) (Operand.const (Value.bool true)) (Operand.tmp 46), type := 4, pos := "req.go:26", after := #[{ on := 10, ground := Ground.data }, { on := 23, ground := Ground.data }], guard := none }) (d := 47) (v := .bool true) rfl rfl (by kernel_rfl) (by kernel_rfl) (by kernel_rfl) (fun _ _ _ h => h) (by rfl) (fun w hSw => by (try dsimp only at hSw); go_simp) hHeld ?_
          simp only [List.setIfInBounds_toArray, List.set_cons_zero, List.set_cons_succ]
          refine wpAnyH_done (by kernel_rfl) ?_ _
          have B9 := hid (below_from HB2.out (below_drew1 BB))
          clear hHeld BB c0 c1 c2 c3 c4 e0 e1
          go_wp2
          go_ret
          exact ⟨ret_bool HR.out.symm, below_from B1.out B9.out⟩
        have g1' : decide (tj < r.fr) = false := decide_eq_false g1
        by_cases g2 : r.un - L < tj
        · have g2' : decide (r.un - L < tj) = true := decide_eq_true g2
          have HR := hid (meets_bad HN hlt (show biteOk r b j = false by
            have : inTime r b j = false := decide_eq_false (by rw [HTJ.out, HLE.out]; omega)
            rw [biteOk, this]; simp))
          go_wp2_with fail
          rw [← hW2]
          clear hW2 d0 d1
          obtain ⟨c0, c1, c2, c3, c4⟩ := KC.out W2 HB2.out
          have e0 := E0.out
          have e1 := E1.out
          have q0 := Q0.out
          go_region_held3 (fun X => Below w.heap.size w X ∧ X.cell? ⟨w.heap.size, 0, none⟩ = some (.int .i64 r.queue) ∧ X.cell? ⟨w.heap.size, 1, none⟩ = some (.int .i64 r.fr) ∧ X.cell? ⟨w.heap.size, 2, none⟩ = some (.int .i64 r.un) ∧ X.cell? ⟨w.heap.size, 3, none⟩ = some (.int .i64 r.kind) ∧ X.cell? ⟨w.heap.size, 4, none⟩ = some (.slice (some ⟨pb, po, none⟩) r.pn r.pc) ∧ X.cell? ⟨wr.heap.size, 0, none⟩ = some (.int .i64 P) ∧ X.cell? ⟨wr.heap.size, 1, none⟩ = some (.int .i64 tj) ∧ X.cell? ⟨pb, po + P * 2, none⟩ = some (.int .i64 L))
            (first | exact ⟨below_drewN B6.out 1, c0, c1, c2, c3, c4, e0, e1, q0⟩ | exact ⟨below_from (below_drewN B6.out 1) BB, cell_later BB c0, cell_later BB c1, cell_later BB c2, cell_later BB c3, cell_later BB c4, cell_later BB e0, cell_later BB e1, cell_later BB q0⟩)
            ((go_at_call 135; refine (KK.out _ (below_drewN B6.out 1)).mono ?_; rintro e w' ⟨rfl, BB⟩))
          rename_i hH
          have B9 := hid (below_from HB2.out (below_drew1 BB))
          clear hH BB c0 c1 c2 c3 c4 e0 e1 q0
          go_wp2
          go_ret
          exact ⟨ret_bool HR.out.symm, below_from B1.out B9.out⟩
        · have g2' : decide (r.un - L < tj) = false := decide_eq_false g2
          have HOK : Hid (isPiece r b j = true ∧ inTime r b j = true) := ⟨by rw [isPiece, HPJ.out]; exact g, decide_eq_true (by rw [HTJ.out, HLE.out]; omega)⟩
          go_wp2_with fail
          rw [← hW2]
          clear hW2 d0 d1
          obtain ⟨c0, c1, c2, c3, c4⟩ := KC.out W2 HB2.out
          have e0 := E0.out
          have e1 := E1.out
          have q0 := Q0.out
          go_region_held3 (fun X => Below w.heap.size w X ∧ X.cell? ⟨w.heap.size, 0, none⟩ = some (.int .i64 r.queue) ∧ X.cell? ⟨w.heap.size, 1, none⟩ = some (.int .i64 r.fr) ∧ X.cell? ⟨w.heap.size, 2, none⟩ = some (.int .i64 r.un) ∧ X.cell? ⟨w.heap.size, 3, none⟩ = some (.int .i64 r.kind) ∧ X.cell? ⟨w.heap.size, 4, none⟩ = some (.slice (some ⟨pb, po, none⟩) r.pn r.pc) ∧ X.cell? ⟨wr.heap.size, 0, none⟩ = some (.int .i64 P) ∧ X.cell? ⟨wr.heap.size, 1, none⟩ = some (.int .i64 tj) ∧ X.cell? ⟨pb, po + P * 2, none⟩ = some (.int .i64 L))
            (first | exact ⟨below_drewN B6.out 1, c0, c1, c2, c3, c4, e0, e1, q0⟩ | exact ⟨below_from (below_drewN B6.out 1) BB, cell_later BB c0, cell_later BB c1, cell_later BB c2, cell_later BB c3, cell_later BB c4, cell_later BB e0, cell_later BB e1, cell_later BB q0⟩)
            ((go_at_call 135; refine (KK.out _ (below_drewN B6.out 1)).mono ?_; rintro e w' ⟨rfl, BB⟩))
          rename_i hH
          have B9 := hid (below_from HB2.out (below_drew1 BB))
          have E2 := hid (cell_later BB e0)
          have E3 := hid (cell_later BB e1)
          clear hH BB c0 c1 c2 c3 c4 e0 e1 q0
          rename World => W3
          have B10 := hid (below_from B1.out B9.out)
          by_cases hj0 : j = 0
          · have HA1 : Hid (allN (biteOk r b) (j + 1) = true) := by
              show allN (biteOk r b) (j + 1) = true
              rw [allN, HA.out, biteOk, HOK.out.1, HOK.out.2, hj0]; rfl
            have hj0' : decide ((0 : Int) < (j : Int)) = false := decide_eq_false (by omega)
            go_wp2_with fail
            go_quiet (fail)
            go_wp2
            go_roundw
            case rel => exact ⟨j + 1, by go_num, by omega, HA1.out, below_drewN B9.out _⟩
            case measure => simp [intOf]; omega
          · obtain ⟨k, rfl⟩ : ∃ k, j = k + 1 := ⟨j - 1, by omega⟩
            have hkn : (k : Int) < bn := by omega
            have hj0' : decide ((0 : Int) < ((k + 1 : Nat) : Int)) = true := decide_eq_true (by omega)
            have hwk : IntKind.i64.wrap (k : Int) = k := by rw [IntKind.wrap_i64]; omega
            obtain ⟨pk, hpk⟩ : ∃ x, rAt b k = x := ⟨_, rfl⟩
            obtain ⟨tk, htk⟩ : ∃ x, rN b k = x := ⟨_, rfl⟩
            have F0 : Hid (W3.cell? ⟨bb, bo + k * 2, none⟩ = some (.int .i64 pk)) := by rw [← hpk]; exact cell_later B9.out (HCB.out k (by omega)).1
            have F1 : Hid (W3.cell? ⟨bb, bo + k * 2 + 1, none⟩ = some (.int .i64 tk)) := by rw [← htk]; exact cell_later B9.out (HCB.out k (by omega)).2
            have HPK : Hid ((0 ≤ pk ∧ pk < r.ps.length) ∧ (0 ≤ rAt r.ps pk.toNat ∧ rAt r.ps pk.toNat ≤ 24) ∧ (0 ≤ tk ∧ tk ≤ 48)) := by
              have ha := biteOk_at (allN_iff.1 HA.out k (by omega))
              have h1 := isPiece_at ha.1
              have h2 := lenOf_at HC0.out ha.1
              have h3 := inTime_at ha.2.1
              have h4 := HS.out
              rw [hpk] at h1
              rw [htk] at h3
              have h5 : lenOf r b k = rAt r.ps pk.toNat := by rw [lenOf, hpk]
              rw [h5] at h2 h3
              exact ⟨h1, ⟨by omega, by omega⟩, by omega, by omega⟩
            have HFB : Hid (followsB r b k (k + 1) = followsV r pk tk P tj) := by
              show followsB r b k (k + 1) = followsV r pk tk P tj
              rw [← hpk, ← htk, ← HPJ.out, ← HTJ.out]; rfl
            clear hpk htk
            cases gf : followsV r pk tk P tj with
            | false =>
              have HR := hid (meets_bad HN hlt (show biteOk r b (k + 1) = false by
                rw [biteOk, Nat.add_sub_cancel, HFB.out, gf]; simp))
              have KF : Hid (∀ w1, Below w.heap.size w w1 → Calls Tryz.prog 187 #[.agg #[.int .i64 r.queue, .int .i64 r.fr, .int .i64 r.un, .int .i64 r.kind, .slice (some ⟨pb, po, none⟩) r.pn r.pc], .agg #[.int .i64 pk, .int .i64 tk], .agg #[.int .i64 P, .int .i64 tj]] w1 fun e w' => e = .returned (.bool false) ∧ Below w1.heap.size w1 w') := fun w1 h1 => by have := K4.out w1 h1 pk tk P tj HPK.out.1 HPK.out.2.1 HPK.out.2.2; rw [gf] at this; exact this
              go_wp2_with fail
              obtain ⟨c0, c1, c2, c3, c4⟩ := KC.out W3 B9.out
              have e0 := E2.out
              have e1 := E3.out
              have f0 := F0.out
              have f1 := F1.out
              go_region_held3 (fun X => Below w.heap.size w X ∧ X.cell? ⟨w.heap.size, 0, none⟩ = some (.int .i64 r.queue) ∧ X.cell? ⟨w.heap.size, 1, none⟩ = some (.int .i64 r.fr) ∧ X.cell? ⟨w.heap.size, 2, none⟩ = some (.int .i64 r.un) ∧ X.cell? ⟨w.heap.size, 3, none⟩ = some (.int .i64 r.kind) ∧ X.cell? ⟨w.heap.size, 4, none⟩ = some (.slice (some ⟨pb, po, none⟩) r.pn r.pc) ∧ X.cell? ⟨wr.heap.size, 0, none⟩ = some (.int .i64 P) ∧ X.cell? ⟨wr.heap.size, 1, none⟩ = some (.int .i64 tj) ∧ X.cell? ⟨bb, bo + k * 2, none⟩ = some (.int .i64 pk) ∧ X.cell? ⟨bb, bo + k * 2 + 1, none⟩ = some (.int .i64 tk))
                (first | exact ⟨below_drewN B10.out 1, c0, c1, c2, c3, c4, e0, e1, f0, f1⟩ | exact ⟨below_from (below_drewN B10.out 1) BB, cell_later BB c0, cell_later BB c1, cell_later BB c2, cell_later BB c3, cell_later BB c4, cell_later BB e0, cell_later BB e1, cell_later BB f0, cell_later BB f1⟩)
                ((go_at_call 187; refine (KF.out _ (below_drewN B10.out 1)).mono ?_; rintro e w' ⟨rfl, BB⟩))
              rename_i hH
              have B11 := hid (below_from B9.out (below_drew1 BB))
              clear hH BB c0 c1 c2 c3 c4 e0 e1 f0 f1
              go_wp2
              go_ret
              exact ⟨ret_bool HR.out.symm, below_from B1.out B11.out⟩
            | true =>
              have HA1 : Hid (allN (biteOk r b) (k + 1 + 1) = true) := by
                show allN (biteOk r b) (k + 1 + 1) = true
                rw [allN, HA.out, biteOk, HOK.out.1, HOK.out.2, Nat.add_sub_cancel, HFB.out, gf]; simp
              have KF : Hid (∀ w1, Below w.heap.size w w1 → Calls Tryz.prog 187 #[.agg #[.int .i64 r.queue, .int .i64 r.fr, .int .i64 r.un, .int .i64 r.kind, .slice (some ⟨pb, po, none⟩) r.pn r.pc], .agg #[.int .i64 pk, .int .i64 tk], .agg #[.int .i64 P, .int .i64 tj]] w1 fun e w' => e = .returned (.bool true) ∧ Below w1.heap.size w1 w') := fun w1 h1 => by have := K4.out w1 h1 pk tk P tj HPK.out.1 HPK.out.2.1 HPK.out.2.2; rw [gf] at this; exact this
              go_wp2_with fail
              obtain ⟨c0, c1, c2, c3, c4⟩ := KC.out W3 B9.out
              have e0 := E2.out
              have e1 := E3.out
              have f0 := F0.out
              have f1 := F1.out
              go_region_held3 (fun X => Below w.heap.size w X ∧ X.cell? ⟨w.heap.size, 0, none⟩ = some (.int .i64 r.queue) ∧ X.cell? ⟨w.heap.size, 1, none⟩ = some (.int .i64 r.fr) ∧ X.cell? ⟨w.heap.size, 2, none⟩ = some (.int .i64 r.un) ∧ X.cell? ⟨w.heap.size, 3, none⟩ = some (.int .i64 r.kind) ∧ X.cell? ⟨w.heap.size, 4, none⟩ = some (.slice (some ⟨pb, po, none⟩) r.pn r.pc) ∧ X.cell? ⟨wr.heap.size, 0, none⟩ = some (.int .i64 P) ∧ X.cell? ⟨wr.heap.size, 1, none⟩ = some (.int .i64 tj) ∧ X.cell? ⟨bb, bo + k * 2, none⟩ = some (.int .i64 pk) ∧ X.cell? ⟨bb, bo + k * 2 + 1, none⟩ = some (.int .i64 tk))
                (first | exact ⟨below_drewN B10.out 1, c0, c1, c2, c3, c4, e0, e1, f0, f1⟩ | exact ⟨below_from (below_drewN B10.out 1) BB, cell_later BB c0, cell_later BB c1, cell_later BB c2, cell_later BB c3, cell_later BB c4, cell_later BB e0, cell_later BB e1, cell_later BB f0, cell_later BB f1⟩)
                ((go_at_call 187; refine (KF.out _ (below_drewN B10.out 1)).mono ?_; rintro e w' ⟨rfl, BB⟩))
              rename_i hH
              have B11 := hid (below_from B9.out (below_drew1 BB))
              clear hH BB c0 c1 c2 c3 c4 e0 e1 f0 f1
              go_wp2
              go_roundw
              case rel => exact ⟨k + 1 + 1, by go_num, by omega, HA1.out, B11.out⟩
              case measure => simp [intOf]; omega
    · obtain rfl : j = bn := by omega
      go_wp2
      go_ret
      refine ⟨ret_bool ?_, below_from B1.out HB.out⟩
      rw [meets, HC0.out, ← HN.out, HBN.out, HA.out]
      simp
theorem box_cells (w : World) (r : Rq) : ∀ X : World, Below (w.alloc (.cells #[.int .i64 r.queue, .int .i64 r.fr, .int .i64 r.un, .int .i64 r.kind, .slice r.pa r.pn r.pc] 24)).heap.size (w.alloc (.cells #[.int .i64 r.queue, .int .i64 r.fr, .int .i64 r.un, .int .i64 r.kind, .slice r.pa r.pn r.pc] 24)) X → X.cell? ⟨w.heap.size, 0, none⟩ = some (.int .i64 r.queue) ∧ X.cell? ⟨w.heap.size, 1, none⟩ = some (.int .i64 r.fr) ∧ X.cell? ⟨w.heap.size, 2, none⟩ = some (.int .i64 r.un) ∧ X.cell? ⟨w.heap.size, 3, none⟩ = some (.int .i64 r.kind) ∧ X.cell? ⟨w.heap.size, 4, none⟩ = some (.slice r.pa r.pn r.pc) :=
  fun X B2 => ⟨cell_later B2 (by go_simp), cell_later B2 (by go_simp), cell_later B2 (by go_simp), cell_later B2 (by go_simp), cell_later B2 (by go_simp)⟩
theorem wantedN_pos {r : Rq} (h : chkR false r = 0) : 1 ≤ wantedN r := by
  have := of_decide_eq_true (chkR_zero.1 h).2.1
  rw [wantedN]; split <;> omega
set_option maxHeartbeats 1000000 in
theorem Meets_any (w : World) (r : Rq) (h : RqIn w r) (ba : Option Addr) (bn bc : Nat) (b : RunL) (hb : RunsIn w ba bn bc b) :
    Calls Tryz.prog 163 #[.agg #[.int .i64 r.queue, .int .i64 r.fr, .int .i64 r.un, .int .i64 r.kind, .slice r.pa r.pn r.pc], .slice ba bn bc] w fun e w' => e = .returned (.bool (meets r b)) ∧ Below w.heap.size w w' := by
  have HN := hid hb.len
  have hle := hb.le
  have hcb := hb.capb
  have B1 := hid ((Below.refl w.heap.size w).alloc (Nat.le_refl _) (.cells #[.int .i64 r.queue, .int .i64 r.fr, .int .i64 r.un, .int .i64 r.kind, .slice r.pa r.pn r.pc] 24))
  have K1 := hid fun w1 (hb : Below w.heap.size w w1) => wrong_any w1 r (h.later hb)
  have K2 := hid fun w1 (hb : Below w.heap.size w w1) => wanted_any w1 r (h.later hb)
  have KC := hid (box_cells w r)
  by_cases g1 : chkR false r = 0
  · by_cases g2 : (bn : Int) = wantedN r
    · have hpos : 0 < bn := by have := wantedN_pos g1; omega
      obtain ⟨bb, bo, rfl, _⟩ := hb.cells hpos
      exact Meets_some w r h bb bo bn bc b hb g1 g2 hpos
    · have hr : meets r b = false := by rw [meets, ← HN.out, decide_eq_false g2]; simp
      rw [hr]
      have hx0 : decide (chkR false r ≠ 0) = false := by rw [g1]; rfl
      rw [hx0] at K1
      obtain ⟨x, hx⟩ : ∃ x, wantedN r = x := ⟨_, rfl⟩
      rw [hx] at K2 g2
      clear hx0 hx g1 hr
      go_enter Tryz.func163, Tryz.ntmps163
      go_wp2_with fail
      refine (K1.out _ B1.out).mono ?_
      rintro e w1 ⟨rfl, B2⟩
      have B3 := hid (below_from B1.out B2)
      obtain ⟨c0, c1, c2, c3, c4⟩ := KC.out w1 B2
      clear B2
      go_wp2_with fail
      refine (K2.out w1 B3.out).mono ?_
      rintro e w2 ⟨rfl, B4⟩
      have B5 := hid (below_from B3.out B4)
      clear B4 c0 c1 c2 c3 c4
      go_wp2
      go_ret
      exact ⟨rfl, B5.out⟩
  · have hr : meets r b = false := by rw [meets, decide_eq_false g1]; rfl
    rw [hr]
    have hx0 : decide (chkR false r ≠ 0) = true := decide_eq_true g1
    rw [hx0] at K1
    clear hx0 hr g1
    go_enter Tryz.func163, Tryz.ntmps163
    go_wp2_with fail
    refine (K1.out _ B1.out).mono ?_
    rintro e w1 ⟨rfl, B2⟩
    have B3 := hid (below_from B1.out B2)
    clear B2
    go_wp2
    go_ret
    exact ⟨rfl, B3.out⟩
end Go.Proofs.YtckpdfkobdgjeaaGreatDoor
namespace Go.Proofs.YtckpdfkobdgjeaaGreatDoor
open Go.RowKit
set_option maxHeartbeats 400000 in
theorem IndexBs_some (fk : Nat) (caps : Array Value) (p : Int → Int → Bool) (hk : ∀ (args : Array Value) (w : World), (callFunc fk args).run Tryz.prog w = .ok (.enter fk args) w) (w : World) (b off n cap : Nat) (l : RunL) (h : RunsIn w (some ⟨b, off, none⟩) n cap l) (hp : 0 < n)
    (hm : ∀ w', Below w.heap.size w w' → ∀ x y : Int, Calls Tryz.prog fk (#[.agg #[.int .i64 x, .int .i64 y]] ++ caps) w' fun e w'' => e = .returned (.bool (!p x y)) ∧ Below w'.heap.size w' w'') :
    Calls Tryz.prog 168 #[.slice (some ⟨b, off, none⟩) n cap, .func (.func fk) #[] caps] w fun e w' => ∃ r : Int, e = .returned (.int .i64 r) ∧ (decide (0 ≤ r)) = (!allN (fun i => p (rAt l i) (rN l i)) n) ∧ Below w.heap.size w w' := by
  have HN := hid h.len
  have hle := h.le
  have hbd := h.capb
  obtain ⟨b', off', e, hc⟩ := h.cells hp
  cases e
  have HC := hid hc
  have HM := hid hm
  clear hc hm
  go_enter Tryz.func168, Tryz.ntmps168
  go_wp2
  go_loopw [5, 8] (fun _ st wr => ∃ k : Nat, st = .int .i64 k ∧ k ≤ n ∧ allN (fun i => p (rAt l i) (rN l i)) k = true ∧ Below w.heap.size w wr) (fun _ st _ => n - (intOf st).toNat)
  case atStart => exact ⟨0, rfl, by omega, rfl, Below.refl _ _⟩
  case round =>
    obtain ⟨j, rfl, hj, hall, hbel⟩ := hrel
    have HA := hid hall
    have HB := hid hbel
    clear hall hbel
    by_cases hlt : j < n
    · have hlt' : (j : Int) < n := by omega
      have c0 := cell_later HB.out (HC.out j hlt).1
      have c1 := cell_later HB.out (HC.out j hlt).2
      cases g : p (rAt l j) (rN l j) with
      | false =>
        go_wp2_with fail
        refine (HM.out wr HB.out (rAt l j) (rN l j)).mono ?_
        rintro e w1 ⟨rfl, hb1⟩
        rw [g]
        go_wp2
        go_ret
        exact ⟨_, rfl, by rw [allN_false (p := fun i => p (rAt l i) (rN l i)) g n hlt]; simp, below_from HB.out hb1⟩
      | true =>
        go_wp2_with fail
        refine (HM.out wr HB.out (rAt l j) (rN l j)).mono ?_
        rintro e w1 ⟨rfl, hb1⟩
        have HB1 := hid hb1
        clear hb1
        rw [g]
        go_wp2
        go_roundw
        case rel => exact ⟨j + 1, by go_num, by omega, by rw [allN, HA.out, g]; rfl, below_from HB.out HB1.out⟩
        case measure => simp [intOf]; omega
    · obtain rfl : j = n := by omega
      go_wp2
      go_ret
      exact ⟨_, rfl, by rw [HA.out]; rfl, HB.out⟩
theorem ContainsBs_any (fk : Nat) (caps : Array Value) (p : Int → Int → Bool) (hk : ∀ (args : Array Value) (w : World), (callFunc fk args).run Tryz.prog w = .ok (.enter fk args) w) (w : World) (a : Option Addr) (n cap : Nat) (l : RunL) (h : RunsIn w a n cap l) (hp : 0 < n)
    (hm : ∀ w', Below w.heap.size w w' → ∀ x y : Int, Calls Tryz.prog fk (#[.agg #[.int .i64 x, .int .i64 y]] ++ caps) w' fun e w'' => e = .returned (.bool (!p x y)) ∧ Below w'.heap.size w' w'') :
    Calls Tryz.prog 133 #[.slice a n cap, .func (.func fk) #[] caps] w fun e w' => e = .returned (.bool (!allN (fun i => p (rAt l i) (rN l i)) n)) ∧ Below w.heap.size w w' := by
  obtain ⟨b, off, rfl, _⟩ := h.cells hp
  have HM := hid hm
  clear hm
  go_enter Tryz.func133, Tryz.ntmps133
  go_wp2_with fail
  refine (IndexBs_some fk caps p hk w b off n cap l h hp HM.out).mono ?_
  rintro e w1 ⟨r, rfl, hr, hb⟩
  have HR := hid hr
  clear hr
  go_wp2
  go_ret
  exact ⟨ret_bool HR.out, hb⟩
def askV (r : Rq) (p t : Int) : Bool := wth p 0 ((r.ps.length : Int) - 1) && wth t 0 48
theorem Over1_any (w : World) (r : Rq) (h : RqIn w r) (B : Nat) (p t : Int) (hB : B < w.heap.size)
    (hX : (fun X : World => X.cell? ⟨B, 0, none⟩ = some (.int .i64 r.queue) ∧ X.cell? ⟨B, 1, none⟩ = some (.int .i64 r.fr) ∧ X.cell? ⟨B, 2, none⟩ = some (.int .i64 r.un) ∧ X.cell? ⟨B, 3, none⟩ = some (.int .i64 r.kind) ∧ X.cell? ⟨B, 4, none⟩ = some (.slice r.pa r.pn r.pc)) w) :
    Calls Tryz.prog 134 #[.agg #[.int .i64 p, .int .i64 t], .pointer (some ⟨B, 0, none⟩)] w fun e w' => e = .returned (.bool (!askV r p t)) ∧ Below w.heap.size w w' := by
  have B1 := hid ((Below.refl w.heap.size w).alloc (Nat.le_refl _) (.cells #[.int .i64 p, .int .i64 t] 62))
  have K := hid (noPiece_any _ r (h.later B1.out) p t)
  obtain ⟨c0, c1, c2, c3, c4⟩ := hX
  cases g : wth p 0 ((r.ps.length : Int) - 1) with
  | false =>
    have hr : askV r p t = false := by rw [askV, g]; rfl
    rw [hr]
    rw [g] at K
    go_enter Tryz.func134, Tryz.ntmps134
    go_wp2_with fail
    refine K.out.mono ?_
    rintro e w1 ⟨rfl, B2⟩
    have B3 := hid (below_from B1.out B2)
    clear B2
    go_wp2
    go_ret
    exact ⟨rfl, B3.out⟩
  | true =>
    have hr : Hid (askV r p t = wth t 0 48) := by show askV r p t = wth t 0 48; rw [askV, g]; rfl
    rw [hr.out]
    rw [g] at K
    go_enter Tryz.func134, Tryz.ntmps134
    go_wp2_with fail
    refine K.out.mono ?_
    rintro e w1 ⟨rfl, B2⟩
    have B3 := hid (below_from B1.out B2)
    have d1 : w1.cell? ⟨w.heap.size, 1, none⟩ = some (.int .i64 t) := cell_later B2 (by go_simp)
    clear B2
    go_wp2
    all_goals
      go_ret
      refine ⟨ret_bool ?_, B3.out⟩
      rw [Bool.eq_iff_iff]; simp [wth]; try omega
def askAll (r : Rq) (b : RunL) : Bool := allN (fun i => askV r (rAt b i) (rN b i)) b.length
def overMax (r : Rq) (b : RunL) : Nat → Int
  | 0 => 0
  | k + 1 => max (overMax r b k) (overAt r b k)
def overOk (r : Rq) (b : RunL) : Bool := decide (chkR false r = 0) && (decide (0 < b.length) && askAll r b)
theorem overOk_no {r : Rq} {b : RunL} (h : overOk r b = false) : (if overOk r b = true then overMax r b b.length else 0) = 0 ∧ (if overOk r b = true then (0 : Int) else 1) = 1 := by rw [h]; exact ⟨rfl, rfl⟩
theorem overOk_yes {r : Rq} {b : RunL} (h : overOk r b = true) : (if overOk r b = true then overMax r b b.length else 0) = overMax r b b.length ∧ (if overOk r b = true then (0 : Int) else 1) = 0 := by rw [h]; exact ⟨rfl, rfl⟩
theorem ask_at {r : Rq} {b : RunL} {i n : Nat} (hc : chkR false r = 0) (h : allN (fun i => askV r (rAt b i) (rN b i)) n = true) (hi : i < n) :
    (0 ≤ rAt b i ∧ rAt b i < r.ps.length) ∧ (1 ≤ rAt r.ps (rAt b i).toNat ∧ rAt r.ps (rAt b i).toNat ≤ 24) ∧ (0 ≤ rN b i ∧ rN b i ≤ 48) := by
  have h1 := allN_iff.1 h i hi
  simp only [askV, Bool.and_eq_true] at h1
  have h2 := of_decide_eq_true h1.1
  have h3 := of_decide_eq_true h1.2
  have h4 := piece_at hc (k := (rAt b i).toNat) (by omega)
  exact ⟨⟨by omega, by omega⟩, ⟨h4.1, h4.2.1⟩, h3⟩
set_option maxHeartbeats 2000000 in
theorem Over_any (w : World) (r : Rq) (h : RqIn w r) (ba : Option Addr) (bn bc : Nat) (b : RunL) (hb : RunsIn w ba bn bc b) :
    Calls Tryz.prog 84 #[.agg #[.int .i64 r.queue, .int .i64 r.fr, .int .i64 r.un, .int .i64 r.kind, .slice r.pa r.pn r.pc], .slice ba bn bc] w fun e w' => e = .returned (.tuple #[.int .i64 (if overOk r b = true then overMax r b b.length else 0), .int .i64 (if overOk r b = true then 0 else 1)]) ∧ Below w.heap.size w w' := by
  have HN := hid hb.len
  have hle := hb.le
  have hcb := hb.capb
  have B1 := hid ((Below.refl w.heap.size w).alloc (Nat.le_refl _) (.cells #[.int .i64 r.queue, .int .i64 r.fr, .int .i64 r.un, .int .i64 r.kind, .slice r.pa r.pn r.pc] 24))
  have K1 := hid fun w1 (hb : Below w.heap.size w w1) => wrong_any w1 r (h.later hb)
  have KC := hid (box_cells w r)
  by_cases g1 : chkR false r = 0
  · have hx0 : decide (chkR false r ≠ 0) = false := by rw [g1]; rfl
    rw [hx0] at K1
    have HC0 := hid g1
    clear hx0 g1
    by_cases g2 : bn = 0
    · have ho := overOk_no (show overOk r b = false by rw [overOk, ← HN.out, g2]; simp)
      rw [ho.1, ho.2]
      clear ho
      subst g2
      go_enter Tryz.func84, Tryz.ntmps84
      go_wp2_with fail
      refine (K1.out _ B1.out).mono ?_
      rintro e w1 ⟨rfl, B2⟩
      have B3 := hid (below_from B1.out B2)
      clear B2
      go_wp2
      go_ret2
      exact ⟨rfl, B3.out⟩
    · have hpos : 0 < bn := by omega
      have g2' : ¬ (bn : Int) = 0 := by omega
      obtain ⟨bb, bo, rfl, hcc⟩ := hb.cells hpos
      have HCC := hid hcc
      clear hcc g2
      have KA : Hid (∀ w1, Below (w.alloc (.cells #[.int .i64 r.queue, .int .i64 r.fr, .int .i64 r.un, .int .i64 r.kind, .slice r.pa r.pn r.pc] 24)).heap.size (w.alloc (.cells #[.int .i64 r.queue, .int .i64 r.fr, .int .i64 r.un, .int .i64 r.kind, .slice r.pa r.pn r.pc] 24)) w1 → Calls Tryz.prog 133 #[.slice (some ⟨bb, bo, none⟩) bn bc, .func (.func 134) #[] #[.pointer (some ⟨w.heap.size, 0, none⟩)]] w1 fun e w' => e = .returned (.bool (!allN (fun i => askV r (rAt b i) (rN b i)) bn)) ∧ Below w1.heap.size w1 w') := fun w1 hw1 =>
        ContainsBs_any 134 #[.pointer (some ⟨w.heap.size, 0, none⟩)] (askV r) (fun args w => by go_simp) w1 _ bn bc b (hb.later (below_from B1.out hw1)) hpos
          (fun w' hw' x y => Over1_any w' r (h.later (below_from (below_from B1.out hw1) hw')) w.heap.size x y (by have := (below_from hw1 hw').size; simp at this; omega) (box_cells w r w' (below_from hw1 hw')))
      cases g3 : allN (fun i => askV r (rAt b i) (rN b i)) bn with
      | false =>
        have ho := overOk_no (show overOk r b = false by rw [overOk, askAll, ← HN.out, g3]; simp)
        rw [ho.1, ho.2]
        clear ho
        rw [g3] at KA
        go_enter Tryz.func84, Tryz.ntmps84
        go_wp2_with fail
        refine (K1.out _ B1.out).mono ?_
        rintro e w1 ⟨rfl, B2⟩
        have B2H := hid B2
        clear B2
        go_wp2_with fail
        refine (KA.out w1 B2H.out).mono ?_
        rintro e w2 ⟨rfl, B4⟩
        have B5 := hid (below_from B1.out (below_from B2H.out B4))
        clear B4
        go_wp2
        go_ret2
        exact ⟨rfl, B5.out⟩
      | true =>
        have ho := overOk_yes (show overOk r b = true by rw [overOk, askAll, ← HN.out, g3, HC0.out]; simp; exact hpos)
        rw [ho.1, ho.2, ← HN.out]
        clear ho
        have HG := hid g3
        rw [g3] at KA
        clear g3
        have KO := hid fun w1 (hb : Below w.heap.size w w1) p t => over_any w1 r (h.later hb) p t
        go_enter Tryz.func84, Tryz.ntmps84
        go_wp2_with fail
        refine (K1.out _ B1.out).mono ?_
        rintro e w1 ⟨rfl, B2⟩
        have B2H := hid B2
        clear B2
        go_wp2_with fail
        refine (KA.out w1 B2H.out).mono ?_
        rintro e w2 ⟨rfl, B4⟩
        have B5 := hid (below_from B2H.out B4)
        clear B4 B2H K1 KA
        go_wp2_with fail
        obtain ⟨W0, hW0⟩ : ∃ W0, W0 = w.alloc (.cells #[.int .i64 r.queue, .int .i64 r.fr, .int .i64 r.un, .int .i64 r.kind, .slice r.pa r.pn r.pc] 24) := ⟨_, rfl⟩
        rw [← hW0] at B5 KC B1
        clear hW0
        go_loopw [6, 21] (fun la st wr => ∃ j : Nat, st = .int .i64 j ∧ j ≤ bn ∧ la = .int .i64 (overMax r b j) ∧ Below W0.heap.size W0 wr) (fun _ st _ => bn - (intOf st).toNat)
        case atStart => exact ⟨0, rfl, by omega, rfl, B5.out⟩
        case round =>
          obtain ⟨j, rfl, hj, rfl, hbel⟩ := hrel
          have HB := hid hbel
          clear hbel
          by_cases hlt : j < bn
          · have hlt' : (j : Int) < bn := by omega
            have d0 := cell_later (below_from B1.out HB.out) (HCC.out j hlt).1
            have d1 := cell_later (below_from B1.out HB.out) (HCC.out j hlt).2
            have HAS := hid (ask_at HC0.out HG.out hlt)
            have HBel : Hid (Below W0.heap.size W0 (wr.alloc (.cells #[.int .i64 (rAt b j), .int .i64 (rN b j)] 62))) := HB.out.alloc HB.out.size _
            have hov : Hid (rN b j + rAt r.ps (rAt b j).toNat = overAt r b j) := rfl
            obtain ⟨c0, c1, c2, c3, c4⟩ := KC.out _ HBel.out
            obtain ⟨x, hx⟩ : ∃ x, overMax r b j = x := ⟨_, rfl⟩
            rw [hx]
            have HX := hid hx
            clear hx
            go_wp2_with fail
            refine (KO.out _ (below_from B1.out HBel.out) _ _ HAS.out.1 ⟨by have := HAS.out.2.1; omega, HAS.out.2.1.2⟩ HAS.out.2.2).mono ?_
            rintro e w3 ⟨rfl, B6⟩
            rw [hov.out]
            have HB6 := hid (below_from HBel.out B6)
            clear B6 c0 c1 c2 c3 c4 d0 d1
            obtain ⟨y, hy⟩ : ∃ y, overAt r b j = y := ⟨_, rfl⟩
            rw [hy]
            have HY := hid hy
            clear hy
            go_wp2
            all_goals
              go_roundw
              case rel => exact ⟨j + 1, by go_num, by omega, by rw [overMax, HX.out, HY.out]; congr 1; omega, HB6.out⟩
              case measure => simp [intOf]; omega
          · obtain rfl : j = bn := by omega
            go_wp2
            go_ret2
            exact ⟨rfl, below_from B1.out HB.out⟩
  · have ho := overOk_no (show overOk r b = false by rw [overOk, decide_eq_false g1]; rfl)
    rw [ho.1, ho.2]
    have hx0 : decide (chkR false r ≠ 0) = true := decide_eq_true g1
    rw [hx0] at K1
    clear hx0 g1 ho
    go_enter Tryz.func84, Tryz.ntmps84
    go_wp2_with fail
    refine (K1.out _ B1.out).mono ?_
    rintro e w1 ⟨rfl, B2⟩
    have B3 := hid (below_from B1.out B2)
    clear B2
    go_wp2
    go_ret2
    exact ⟨rfl, B3.out⟩
end Go.Proofs.YtckpdfkobdgjeaaGreatDoor
namespace Go.Proofs.YtckpdfkobdgjeaaGreatDoor
def Rq.as (r : Rq) (k : Int) : Rq := ⟨r.queue, r.fr, r.un, k, r.pa, r.pn, r.pc, r.ps⟩
theorem meets_split {r : Rq} {b : RunL} : meets r b = true ↔ chkR false r = 0 ∧ (b.length : Int) = wantedN r ∧ ∀ i, i < b.length → biteOk r b i = true := by
  rw [meets, Bool.and_eq_true, Bool.and_eq_true, decide_eq_true_iff, decide_eq_true_iff, allN_iff]
theorem meets_over {r : Rq} {b : RunL} (h : meets r b = true) : overOk r b = true := by
  obtain ⟨h1, h2, h3⟩ := meets_split.1 h
  have hw := wantedN_pos h1
  have hs := spn_at h1
  rw [overOk, decide_eq_true h1, decide_eq_true (show 0 < b.length by omega), Bool.true_and, Bool.true_and, askAll, allN_iff]
  intro i hi
  obtain ⟨g1, g2, _⟩ := biteOk_at (h3 i hi)
  have g3 := inTime_at g2
  have g4 := lenOf_at h1 g1
  have g5 := isPiece_at g1
  simp only [askV, Bool.and_eq_true, wth, decide_eq_true_eq]
  omega
theorem overMax_le {r : Rq} {b : RunL} (h : meets r b = true) : ∀ k, k ≤ b.length → overMax r b k ≤ r.un
  | 0, _ => by have := spn_at (meets_split.1 h).1; simp only [overMax]; omega
  | k + 1, hk => by
    obtain ⟨h1, h2, h3⟩ := meets_split.1 h
    have ih := overMax_le h k (by omega)
    obtain ⟨g1, g2, _⟩ := biteOk_at (h3 k (by omega))
    have g3 := inTime_at g2
    simp only [overMax, overAt]
    omega
theorem overMax_ge {r : Rq} {b : RunL} : ∀ {n k : Nat}, k < n → overAt r b k ≤ overMax r b n
  | 0, k, h => by omega
  | n + 1, k, h => by
    rw [overMax]
    by_cases e : k = n
    · subst e; omega
    · have := overMax_ge (r := r) (b := b) (n := n) (k := k) (by omega); omega
theorem meets_bounds {r : Rq} {b : RunL} (h : meets r b = true) : overMax r b b.length ≤ r.un ∧ r.fr < overMax r b b.length ∧ rN b 0 < overMax r b b.length ∧ 0 < b.length := by
  obtain ⟨h1, h2, h3⟩ := meets_split.1 h
  have hw := wantedN_pos h1
  have hp : 0 < b.length := by omega
  have h4 := overMax_le h b.length (Nat.le_refl _)
  have h5 := overMax_ge (r := r) (b := b) hp
  obtain ⟨g1, g2, _⟩ := biteOk_at (h3 0 hp)
  have g3 := inTime_at g2
  have g4 := lenOf_at h1 g1
  simp only [overAt] at h5
  exact ⟨h4, by omega, by omega, hp⟩
end Go.Proofs.YtckpdfkobdgjeaaGreatDoor
namespace Go.Proofs.YtckpdfkobdgjeaaGreatDoor
open Go.RowKit
end Go.Proofs.YtckpdfkobdgjeaaGreatDoor
namespace Go.Proofs.YtckpdfkobdgjeaaGreatDoor
open Go.RowKit
end Go.Proofs.YtckpdfkobdgjeaaGreatDoor
namespace Go.Proofs.YtckpdfkobdgjeaaGreatDoor
open Go.RowKit
theorem pairs_lit (w : World) (l : RunL) (c : Array Value) (t : TypeId) (n : Nat) (hc : c.toList = cellsOf l) (hn : n = l.length) (hb : l.length ≤ 48) : RunsIn (w.alloc (.cells c t)) (some ⟨w.heap.size, 0, none⟩) n n l := by
  refine ⟨hn, Nat.le_refl _, by omega, by omega, fun _ => ⟨w.heap.size, 0, rfl, fun i hi => ?_⟩⟩
  rw [World.cell?_alloc_at _ _ _ _ rfl, World.cell?_alloc_at _ _ _ _ rfl]
  have h1 := cellsOf_even l i (by omega)
  have h2 := cellsOf_odd l i (by omega)
  rw [← hc] at h1 h2
  simp only [Array.getElem?_toList] at h1 h2
  rw [Nat.zero_add]
  exact ⟨h1, h2⟩
def plotR (c : Nat) (q kind : Int) : Rq := ⟨q, 2, 30, kind, some ⟨c, 0, none⟩, 2, 2, [(4, 3), (5, 6)]⟩
theorem plot_any (w : World) (kind : Int) : Calls Tryz.prog 36 #[.int .i64 kind] w fun e w' => e = .returned (.agg #[.int .i64 3, .int .i64 2, .int .i64 30, .int .i64 kind, .slice (some ⟨w.heap.size + 1, 0, none⟩) 2 2]) ∧ RqIn w' (plotR (w.heap.size + 1) 3 kind) ∧ Below w.heap.size w w' := by
  go_enter Tryz.func36, Tryz.ntmps36
  go_wp2
  have hB : Below w.heap.size w ((w.alloc (.cells #[.int .i64 3, .int .i64 2, .int .i64 30, .int .i64 kind, .slice (some ⟨w.heap.size + 1, 0, none⟩) 2 2] 24)).alloc (.cells #[.int .i64 4, .int .i64 3, .int .i64 5, .int .i64 6] 64)) := ((Below.refl _ _).alloc (Nat.le_refl _) _).alloc (by simp) _
  refine bodyPost_ret (v := .agg #[.int .i64 3, .int .i64 2, .int .i64 30, .int .i64 kind, .slice (some ⟨w.heap.size + 1, 0, none⟩) 2 2]) (results_cell_row Tryz.results36 _ _ w.heap.size 24 #[.int .i64 3, .int .i64 2, .int .i64 30, .int .i64 kind, .slice (some ⟨w.heap.size + 1, 0, none⟩) 2 2] (0, 0) _ rfl ((Below.heap_alloc _ _ _ (by simp)).trans (heap_alloc_new w _)) Tryz.underlying24 rfl (by kernel_rfl)) rfl ⟨rfl, ?_, hB⟩
  have := pairs_lit (w.alloc (.cells #[.int .i64 3, .int .i64 2, .int .i64 30, .int .i64 kind, .slice (some ⟨w.heap.size + 1, 0, none⟩) 2 2] 24)) [(4, 3), (5, 6)] #[.int .i64 4, .int .i64 3, .int .i64 5, .int .i64 6] 64 2 rfl rfl (by decide)
  rw [World.size_alloc] at this
  exact this
def Cells5 (X : World) (g : Nat) (a b c d e : Value) : Prop := X.cell? ⟨g, 0, none⟩ = some a ∧ X.cell? ⟨g, 1, none⟩ = some b ∧ X.cell? ⟨g, 2, none⟩ = some c ∧ X.cell? ⟨g, 3, none⟩ = some d ∧ X.cell? ⟨g, 4, none⟩ = some e
theorem Cells5.later {X Y : World} {g : Nat} {a b c d e : Value} (h : Cells5 X g a b c d e) (hb : Below X.heap.size X Y) : Cells5 Y g a b c d e := ⟨cell_later hb h.1, cell_later hb h.2.1, cell_later hb h.2.2.1, cell_later hb h.2.2.2.1, cell_later hb h.2.2.2.2⟩
end Go.Proofs.YtckpdfkobdgjeaaGreatDoor
