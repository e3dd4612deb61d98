/- Contracts of the library's ContainsFunc on books, and of load.check. -/
import Derived.Test.YtcgchicdmgllaadLoadA
namespace Go.Proofs.Ytcgchicdmgllaad
open Go.RowKit

set_option maxHeartbeats 400000 in
theorem IndexBk_any (fk : Nat) (caps : Array Value) (p : Bk → Bool) (hk : ∀ (args : Array Value) (w : World), (callFunc fk args).run Try.prog w = .ok (.enter fk args) w) (w : World) (a : Option Addr) (n cap : Nat) (l : BL) (h : BksIn w a n cap l)
    (hm : ∀ w', Below w.heap.size w w' → ∀ x : Bk, RqIn w' x.rq → RunsIn w' x.ba x.bn x.bc x.bs → Calls Try.prog fk (#[.agg #[.int .i64 x.id, .int .i64 x.rq.queue, .int .i64 x.rq.fr, .int .i64 x.rq.un, .int .i64 x.rq.kind, .slice x.rq.pa x.rq.pn x.rq.pc, .slice x.ba x.bn x.bc]] ++ caps) w' fun e w'' => e = .returned (.bool (!p x)) ∧ Below w'.heap.size w' w'') :
    Calls Try.prog 44 #[.slice a n cap, .func (.func fk) #[] caps] w fun e w' => ∃ r : Int, e = .returned (.int .i64 r) ∧ (decide (0 ≤ r)) = (!allN (fun i => p (bk l i)) n) ∧ Below w.heap.size w w' := by
  have HN := hid h.len
  have hle := h.le
  have hbd := h.capb
  have HC := hid h.cells
  have HM := hid hm
  have HH := hid h
  clear hm h
  go_enter Try.func44, Try.ntmps44
  go_wp2
  go_loopw [5, 8] (fun _ st wr => ∃ k : Nat, st = .int .i64 k ∧ k ≤ n ∧ allN (fun i => p (bk l i)) k = true ∧ Below w.heap.size w wr) (fun _ st _ => n - (intOf st).toNat)
  case atStart => exact ⟨0, rfl, by omega, rfl, Below.refl _ _⟩
  case round =>
    obtain ⟨j, rfl, hj, hall, hbel⟩ := hrel
    have HA := hid hall
    have HB := hid hbel
    clear hall hbel
    by_cases hlt : j < n
    · have hlt' : (j : Int) < n := by omega
      obtain ⟨b, off, rfl, hc⟩ := HC.out (by omega)
      obtain ⟨c0, c1, c2, c3, c4, c5, c6⟩ := hc j hlt
      replace c0 := cell_later HB.out c0
      replace c1 := cell_later HB.out c1
      replace c2 := cell_later HB.out c2
      replace c3 := cell_later HB.out c3
      replace c4 := cell_later HB.out c4
      replace c5 := cell_later HB.out c5
      replace c6 := cell_later HB.out c6
      clear hc
      have K := HM.out wr HB.out (bk l j) ((HH.out.rqs j hlt).later HB.out) ((HH.out.bites j hlt).later HB.out)
      obtain ⟨X, hX⟩ : ∃ X, bk l j = X := ⟨_, rfl⟩
      rw [hX] at K c0 c1 c2 c3 c4 c5 c6
      have HX := hid hX
      have HK := hid K
      clear hX K
      cases g : p X with
      | false =>
        go_wp2_with fail
        refine HK.out.mono ?_
        rintro e w1 ⟨rfl, hb1⟩
        rw [g]
        go_wp2
        go_ret
        exact ⟨_, rfl, by rw [allN_false (p := fun i => p (bk l i)) (k := j) (by rw [HX.out]; exact g) n hlt]; simp, below_from HB.out hb1⟩
      | true =>
        go_wp2_with fail
        refine HK.out.mono ?_
        rintro e w1 ⟨rfl, hb1⟩
        have HB1 := hid hb1
        clear hb1
        rw [g]
        go_wp2
        go_roundw
        case rel => exact ⟨j + 1, by go_num, by omega, by rw [allN, HA.out, HX.out, g]; rfl, below_from HB.out HB1.out⟩
        case measure => simp [intOf]; omega
    · obtain rfl : j = n := by omega
      go_wp2
      go_ret
      exact ⟨_, rfl, by rw [HA.out]; rfl, HB.out⟩
theorem ContainsBk_any (fk : Nat) (caps : Array Value) (p : Bk → Bool) (hk : ∀ (args : Array Value) (w : World), (callFunc fk args).run Try.prog w = .ok (.enter fk args) w) (w : World) (a : Option Addr) (n cap : Nat) (l : BL) (h : BksIn w a n cap l)
    (hm : ∀ w', Below w.heap.size w w' → ∀ x : Bk, RqIn w' x.rq → RunsIn w' x.ba x.bn x.bc x.bs → Calls Try.prog fk (#[.agg #[.int .i64 x.id, .int .i64 x.rq.queue, .int .i64 x.rq.fr, .int .i64 x.rq.un, .int .i64 x.rq.kind, .slice x.rq.pa x.rq.pn x.rq.pc, .slice x.ba x.bn x.bc]] ++ caps) w' fun e w'' => e = .returned (.bool (!p x)) ∧ Below w'.heap.size w' w'') :
    Calls Try.prog 26 #[.slice a n cap, .func (.func fk) #[] caps] w fun e w' => e = .returned (.bool (!allN (fun i => p (bk l i)) n)) ∧ Below w.heap.size w w' := by
  have HM := hid hm
  clear hm
  go_enter Try.func26, Try.ntmps26
  go_wp2_with fail
  refine (IndexBk_any fk caps p hk w a n cap l h HM.out).mono ?_
  rintro e w1 ⟨r, rfl, hr, hb⟩
  have HR := hid hr
  clear hr
  go_wp2
  go_ret
  exact ⟨ret_bool HR.out, hb⟩

/-- no book has this error -/
def noB (l : QL) (b : BL) (e : Int) : Bool := allN (fun i => !decide (chkB l (bk b i) = e)) b.length
/-- the errors in the order in which they are named -/
def ers (k : Nat) : Int := [7, 2, 6, 3, 1].getD k 0
/-- the first of them, from k on -/
def firstE (l : QL) (b : BL) : Nat → Nat → Int
  | _, 0 => 0
  | k, m + 1 => if noB l b (ers k) = true then firstE l b (k + 1) m else ers k
/-- D1's errors -/
def chkL (l : QL) (b : BL) : Int := if chkT l = 0 then (if b.length ≤ 12 then firstE l b 0 5 else 2) else chkT l

set_option maxRecDepth 100000 in
set_option maxHeartbeats 1000000 in
theorem checkL_any (w : World) (a : Option Addr) (n cap : Nat) (l : QL) (hl : QsIn w a n cap l) (ba : Option Addr) (bn bc : Nat) (b : BL) (hb : BksIn w ba bn bc b) :
    Calls Try.prog 58 #[.slice a n cap, .slice ba bn bc] w fun e w' => e = .returned (.int .i64 (chkL l b)) ∧ Below w.heap.size w w' := by
  have B1 := hid ((Below.refl w.heap.size w).alloc (Nat.le_refl _) (.cells #[.slice a n cap] 22))
  have K1 := CheckT_any _ a n cap l (hl.later B1.out)
  have cL : (w.alloc (.cells #[.slice a n cap] 22)).cell? ⟨w.heap.size, 0, none⟩ = some (.slice a n cap) := by go_simp
  have HCL := hid cL
  have hble := hb.le
  have hbcb := hb.capb
  have HBN := hid hb.len
  by_cases he : chkT l = 0
  · have hx : chkL l b = if b.length ≤ 12 then firstE l b 0 5 else 2 := if_pos he
    rw [hx]
    rw [he] at K1
    have HK1 := hid K1
    clear hx K1 he
    by_cases h12 : b.length ≤ 12
    · rw [if_pos h12]
      have h12' : ¬ (12 : Int) < bn := by have := HBN.out; omega
      have KC := hid fun X (hX : Below w.heap.size w X) (cl : X.cell? ⟨w.heap.size, 0, none⟩ = some (.slice a n cap)) (Be : Nat) (e : Int) (ce : X.cell? ⟨Be, 0, none⟩ = some (.int .i64 e)) =>
        ContainsBk_any 79 #[.pointer (some ⟨w.heap.size, 0, none⟩), .pointer (some ⟨Be, 0, none⟩)] (fun x => !decide (chkB l x = e)) (fun args w => by go_simp) X ba bn bc b (hb.later hX)
          (fun w' hw' x hr hbs => (check1_any w' a n cap l (hl.later (below_from hX hw')) x hr hbs w.heap.size Be e (cell_later hw' cl) (cell_later hw' ce)).mono fun r w'' q => ⟨by rw [q.1]; simp, q.2⟩)
      obtain ⟨E, hE⟩ : ∃ E, firstE l b 0 5 = E := ⟨_, rfl⟩
      rw [hE]
      have HE := hid hE
      clear hl hb h12 hE cL
      go_enter Try.func58, Try.ntmps58
      go_wp2_with fail
      refine HK1.out.mono ?_
      rintro e w1 ⟨rfl, h1⟩
      have HB := hid (below_from B1.out h1)
      have HCL1 := hid (cell_later h1 HCL.out)
      clear h1
      go_wp2_with fail
      obtain ⟨W2, hW2⟩ : ∃ W2, W2 = w1.alloc (.cells #[.int .i64 7, .int .i64 2, .int .i64 6, .int .i64 3, .int .i64 1] 26) := ⟨_, rfl⟩
      have hb2 : Below w1.heap.size w1 W2 := by rw [hW2]; exact (Below.refl _ _).alloc (Nat.le_refl _) _
      have HC2 : Hid (∀ k, k < 5 → W2.cell? ⟨w1.heap.size, k, none⟩ = some (.int .i64 (ers k))) := by
        intro k hk
        rw [hW2]
        match k, hk with
        | 0, _ => go_simp; rfl
        | 1, _ => go_simp; rfl
        | 2, _ => go_simp; rfl
        | 3, _ => go_simp; rfl
        | 4, _ => go_simp; rfl
        | k + 5, hk => omega
      rw [← hW2]
      have HBW := hid (below_from HB.out hb2)
      have HCLW := hid (cell_later hb2 HCL1.out)
      obtain ⟨G, hG⟩ : ∃ G, w1.heap.size = G := ⟨_, rfl⟩
      rw [hG] at HC2
      rw [hG]
      clear hb2 hW2 hG
      go_loopw [7, 18] (fun _ st wr => ∃ k : Nat, st = .int .i64 k ∧ k ≤ 5 ∧ firstE l b 0 5 = firstE l b k (5 - k) ∧ Below W2.heap.size W2 wr) (fun _ st _ => 5 - (intOf st).toNat)
      case atStart => exact ⟨0, rfl, by omega, rfl, Below.refl _ _⟩
      case round =>
        obtain ⟨k, rfl, hk, hf, hbel⟩ := hrel
        have HF := hid hf
        have HBL := hid hbel
        clear hf hbel
        by_cases hlt : k < 5
        · have hlt' : (k : Int) < 5 := by omega
          have d0 := cell_later HBL.out (HC2.out k hlt)
          obtain ⟨e, hee⟩ : ∃ e, ers k = e := ⟨_, rfl⟩
          rw [hee] at d0
          have HEE := hid hee
          clear hee
          obtain ⟨W3, hW3⟩ : ∃ W3, W3 = wr.alloc (.cells #[.int .i64 e] 26) := ⟨_, rfl⟩
          have hb3 : Below wr.heap.size wr W3 := by rw [hW3]; exact (Below.refl _ _).alloc (Nat.le_refl _) _
          have ce : W3.cell? ⟨wr.heap.size, 0, none⟩ = some (.int .i64 e) := by rw [hW3]; go_simp
          have K := KC.out W3 (below_from (below_from HBW.out HBL.out) hb3) (cell_later hb3 (cell_later HBL.out HCLW.out)) wr.heap.size e ce
          rw [HBN.out, show allN (fun i => !decide (chkB l (bk b i) = e)) b.length = noB l b e from rfl] at K
          have HNB : Hid (firstE l b k (5 - k) = if noB l b e = true then firstE l b (k + 1) (5 - (k + 1)) else e) := by
            show firstE l b k (5 - k) = _
            obtain ⟨m, hm⟩ : ∃ m, 5 - k = m + 1 := ⟨5 - k - 1, by omega⟩
            rw [hm, firstE, HEE.out, show 5 - (k + 1) = m from by omega]
          obtain ⟨N, hN⟩ : ∃ N, noB l b e = N := ⟨_, rfl⟩
          rw [hN] at K HNB
          have HB3 := hid hb3
          have HW3 := hid hW3
          have HCE := hid ce
          rw [← HBN.out] at K
          have HK := hid K
          clear hN K hb3 hW3 ce
          cases N with
          | false =>
            go_wp2_with fail
            rw [← HW3.out]
            refine HK.out.mono ?_
            rintro r w4 ⟨rfl, h4⟩
            have HB4 := hid (below_from (below_from (below_from HBW.out HBL.out) HB3.out) h4)
            have c4 := cell_later h4 HCE.out
            clear h4 d0
            have HAA : Hid (e = E) := by show e = E; rw [← HE.out, HF.out, HNB.out]; rfl
            go_wp2
            go_ret
            rw [← HAA.out]
            exact ⟨rfl, HB4.out⟩
          | true =>
            go_wp2_with fail
            rw [← HW3.out]
            refine HK.out.mono ?_
            rintro r w4 ⟨rfl, h4⟩
            have HB4 := hid (below_from (below_from HBL.out HB3.out) h4)
            clear h4 d0
            go_wp2
            go_roundw
            case rel => exact ⟨k + 1, by go_num, by omega, by rw [HF.out, HNB.out]; rfl, HB4.out⟩
            case measure => simp [intOf]; omega
        · obtain rfl : k = 5 := by omega
          have HAA : Hid (0 = E) := by show 0 = E; rw [← HE.out, HF.out]; rfl
          go_wp2
          go_ret
          rw [← HAA.out]
          exact ⟨rfl, below_from HBW.out HBL.out⟩
    · rw [if_neg h12]
      have h12' : (12 : Int) < bn := by have := HBN.out; omega
      clear hl hb h12 cL
      go_enter Try.func58, Try.ntmps58
      go_wp2_with fail
      refine HK1.out.mono ?_
      rintro e w1 ⟨rfl, h1⟩
      have HB := hid (below_from B1.out h1)
      clear h1
      go_wp2
      go_ret
      exact ⟨rfl, HB.out⟩
  · have hx : chkL l b = chkT l := if_neg he
    rw [hx]
    obtain ⟨er, her⟩ : ∃ er, chkT l = er := ⟨_, rfl⟩
    rw [her] at K1 he
    rw [her]
    have hne : (er != 0) = true := by simp [he]
    have HK1 := hid K1
    clear hx K1 he her hl hb cL
    go_enter Try.func58, Try.ntmps58
    go_wp2_with fail
    refine HK1.out.mono ?_
    rintro e w1 ⟨rfl, h1⟩
    have HB := hid (below_from B1.out h1)
    clear h1
    go_wp2
    go_ret
    exact ⟨rfl, HB.out⟩
end Go.Proofs.Ytcgchicdmgllaad
