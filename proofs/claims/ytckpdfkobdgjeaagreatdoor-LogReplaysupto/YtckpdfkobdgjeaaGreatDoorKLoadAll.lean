/- Several texts in one: LoadA, LoadB, LoadC, LoadH, LoadD, LoadM, LoadE, LoadF, LoadK. -/
import Derived.Test.YtckpdfkobdgjeaaGreatDoorKReqAll
import Derived.Test.YtckpdfkobdgjeaaGreatDoorKAll1
import Derived.Test.YtckpdfkobdgjeaaGreatDoorKAll0
import Derived.Test.YtckpdfkobdgjeaaGreatDoorKTreeAll
import Derived.Deep.DeepCutAuto
namespace Go.Proofs.YtckpdfkobdgjeaaGreatDoor
open Go.RowKit
structure Bk where
  id : Int
  rq : Rq
  ba : Option Addr
  bn : Nat
  bc : Nat
  bs : RunL
abbrev BL := List Bk
def bk (l : BL) (i : Nat) : Bk := l.getD i ⟨0, ⟨0, 0, 0, 0, none, 0, 0, []⟩, none, 0, 0, []⟩
structure BksIn (w : World) (a : Option Addr) (n cap : Nat) (l : BL) : Prop where
  len : n = l.length
  le : n ≤ cap
  capb : cap ≤ 9223372036854775807
  cells : 0 < n → ∃ b off, a = some ⟨b, off, none⟩ ∧ ∀ i, i < n → w.cell? ⟨b, off + i * 7, none⟩ = some (.int .i64 (bk l i).id) ∧ w.cell? ⟨b, off + i * 7 + 1, none⟩ = some (.int .i64 (bk l i).rq.queue) ∧ w.cell? ⟨b, off + i * 7 + 2, none⟩ = some (.int .i64 (bk l i).rq.fr) ∧ w.cell? ⟨b, off + i * 7 + 3, none⟩ = some (.int .i64 (bk l i).rq.un) ∧ w.cell? ⟨b, off + i * 7 + 4, none⟩ = some (.int .i64 (bk l i).rq.kind) ∧ w.cell? ⟨b, off + i * 7 + 5, none⟩ = some (.slice (bk l i).rq.pa (bk l i).rq.pn (bk l i).rq.pc) ∧ w.cell? ⟨b, off + i * 7 + 6, none⟩ = some (.slice (bk l i).ba (bk l i).bn (bk l i).bc)
  rqs : ∀ i, i < n → RqIn w (bk l i).rq
  bites : ∀ i, i < n → RunsIn w (bk l i).ba (bk l i).bn (bk l i).bc (bk l i).bs
theorem BksIn.later {w w' : World} {a : Option Addr} {n cap : Nat} {l : BL} (h : BksIn w a n cap l) (hb : Below w.heap.size w w') : BksIn w' a n cap l := by
  refine ⟨h.len, h.le, h.capb, fun hp => ?_, fun i hi => (h.rqs i hi).later hb, fun i hi => (h.bites i hi).later hb⟩
  obtain ⟨b, off, ha, hc⟩ := h.cells hp
  refine ⟨b, off, ha, fun i hi => ?_⟩
  obtain ⟨c0, c1, c2, c3, c4, c5, c6⟩ := hc i hi
  exact ⟨cell_later hb c0, cell_later hb c1, cell_later hb c2, cell_later hb c3, cell_later hb c4, cell_later hb c5, cell_later hb c6⟩
theorem bk_cells (w : World) (x : Bk) : ∀ X : World, Below (w.alloc (.cells #[.int .i64 x.id, .int .i64 x.rq.queue, .int .i64 x.rq.fr, .int .i64 x.rq.un, .int .i64 x.rq.kind, .slice x.rq.pa x.rq.pn x.rq.pc, .slice x.ba x.bn x.bc] 60)).heap.size (w.alloc (.cells #[.int .i64 x.id, .int .i64 x.rq.queue, .int .i64 x.rq.fr, .int .i64 x.rq.un, .int .i64 x.rq.kind, .slice x.rq.pa x.rq.pn x.rq.pc, .slice x.ba x.bn x.bc] 60)) X → X.cell? ⟨w.heap.size, 0, none⟩ = some (.int .i64 x.id) ∧ X.cell? ⟨w.heap.size, 1, none⟩ = some (.int .i64 x.rq.queue) ∧ X.cell? ⟨w.heap.size, 2, none⟩ = some (.int .i64 x.rq.fr) ∧ X.cell? ⟨w.heap.size, 3, none⟩ = some (.int .i64 x.rq.un) ∧ X.cell? ⟨w.heap.size, 4, none⟩ = some (.int .i64 x.rq.kind) ∧ X.cell? ⟨w.heap.size, 5, none⟩ = some (.slice x.rq.pa x.rq.pn x.rq.pc) ∧ X.cell? ⟨w.heap.size, 6, none⟩ = some (.slice x.ba x.bn x.bc) :=
  fun X B2 => ⟨cell_later B2 (by go_simp), cell_later B2 (by go_simp), cell_later B2 (by go_simp), cell_later B2 (by go_simp), cell_later B2 (by go_simp), cell_later B2 (by go_simp), cell_later B2 (by go_simp)⟩
def chkB (l : QL) (x : Bk) : Int := if chkQR l x.rq = 0 then (if meets x.rq x.bs = true then 0 else 1) else chkQR l x.rq
set_option maxHeartbeats 1000000 in
theorem checkBook_any (w : World) (a : Option Addr) (n cap : Nat) (l : QL) (hl : QsIn w a n cap l) (x : Bk) (hr : RqIn w x.rq) (hb : RunsIn w x.ba x.bn x.bc x.bs) :
    Calls Tryz.prog 129 #[.slice a n cap, .agg #[.int .i64 x.id, .int .i64 x.rq.queue, .int .i64 x.rq.fr, .int .i64 x.rq.un, .int .i64 x.rq.kind, .slice x.rq.pa x.rq.pn x.rq.pc, .slice x.ba x.bn x.bc]] w fun e w' => e = .returned (.int .i64 (chkB l x)) ∧ Below w.heap.size w w' := by
  have B1 := hid ((Below.refl w.heap.size w).alloc (Nat.le_refl _) (.cells #[.int .i64 x.id, .int .i64 x.rq.queue, .int .i64 x.rq.fr, .int .i64 x.rq.un, .int .i64 x.rq.kind, .slice x.rq.pa x.rq.pn x.rq.pc, .slice x.ba x.bn x.bc] 60))
  have KB := hid (bk_cells w x)
  have K1 := CheckRq_any _ a n cap l (hl.later B1.out) x.rq (hr.later B1.out)
  have K2 := hid fun X (hX : Below w.heap.size w X) => Meets_any X x.rq (hr.later hX) x.ba x.bn x.bc x.bs (hb.later hX)
  clear hl hr hb
  by_cases he : chkQR l x.rq = 0
  · rw [he] at K1
    have HK1 := hid K1
    have hx : chkB l x = if meets x.rq x.bs = true then 0 else 1 := if_pos he
    rw [hx]
    clear he hx K1
    obtain ⟨m, hm⟩ : ∃ m, meets x.rq x.bs = m := ⟨_, rfl⟩
    rw [hm] at K2
    rw [hm]
    clear hm
    go_enter Tryz.func129, Tryz.ntmps129
    go_wp2_with fail
    refine HK1.out.mono ?_
    rintro e w1 ⟨rfl, h1⟩
    obtain ⟨c0, c1, c2, c3, c4, c5, c6⟩ := KB.out w1 h1
    have HB := hid (below_from B1.out h1)
    clear h1
    cases m
    all_goals
      go_wp2_with fail
      refine (K2.out w1 HB.out).mono ?_
      rintro e w2 ⟨rfl, h2⟩
      have HB2 := hid (below_from HB.out h2)
      clear h2
      go_wp2
      go_ret
      exact ⟨rfl, HB2.out⟩
  · have hx : chkB l x = chkQR l x.rq := if_neg he
    rw [hx]
    obtain ⟨er, her⟩ : ∃ er, chkQR l x.rq = er := ⟨_, rfl⟩
    rw [her] at K1 he
    rw [her]
    have hne : (er != 0) = true := by simp [he]
    have HK1 := hid K1
    clear hx K1 he her
    go_enter Tryz.func129, Tryz.ntmps129
    go_wp2_with fail
    refine HK1.out.mono ?_
    rintro e w1 ⟨rfl, h1⟩
    have HB := hid (below_from B1.out h1)
    clear h1
    go_wp2
    go_ret
    exact ⟨rfl, HB.out⟩
set_option maxRecDepth 100000 in
set_option maxHeartbeats 1000000 in
theorem check1_any (w : World) (a : Option Addr) (n cap : Nat) (l : QL) (hl : QsIn w a n cap l) (x : Bk) (hr : RqIn w x.rq) (hb : RunsIn w x.ba x.bn x.bc x.bs) (Bl Be : Nat) (e : Int) (hL : w.cell? ⟨Bl, 0, none⟩ = some (.slice a n cap)) (hE : w.cell? ⟨Be, 0, none⟩ = some (.int .i64 e)) :
    Calls Tryz.prog 128 #[.agg #[.int .i64 x.id, .int .i64 x.rq.queue, .int .i64 x.rq.fr, .int .i64 x.rq.un, .int .i64 x.rq.kind, .slice x.rq.pa x.rq.pn x.rq.pc, .slice x.ba x.bn x.bc], .pointer (some ⟨Bl, 0, none⟩), .pointer (some ⟨Be, 0, none⟩)] w fun r w' => r = .returned (.bool (decide (chkB l x = e))) ∧ Below w.heap.size w w' := by
  have B1 := hid ((Below.refl w.heap.size w).alloc (Nat.le_refl _) (.cells #[.int .i64 x.id, .int .i64 x.rq.queue, .int .i64 x.rq.fr, .int .i64 x.rq.un, .int .i64 x.rq.kind, .slice x.rq.pa x.rq.pn x.rq.pc, .slice x.ba x.bn x.bc] 60))
  have KB := hid (bk_cells w x)
  have KC := hid fun X (hX : Below w.heap.size w X) => checkBook_any X a n cap l (hl.later hX) x (hr.later hX) (hb.later hX)
  have HL := hid hL
  have HE := hid hE
  obtain ⟨C, hC⟩ : ∃ C, chkB l x = C := ⟨_, rfl⟩
  rw [hC] at KC
  rw [hC]
  clear hl hr hb hL hE hC
  go_enter Tryz.func128, Tryz.ntmps128
  go_wp2_with fail
  refine wp_region_des ((Tryz.f128.body.bind fun c => regOps c 1).getD #[]) (by kernel_rfl) [isV (.slice a n cap), isV (.agg #[.int .i64 x.id, .int .i64 x.rq.queue, .int .i64 x.rq.fr, .int .i64 x.rq.un, .int .i64 x.rq.kind, .slice x.rq.pa x.rq.pn x.rq.pc, .slice x.ba x.bn x.bc]), isV (.int .i64 C), isV (.int .i64 e), isV (.bool (decide (C = e))), isV (.bool (decide (C = e)))] [] (by kernel_rfl) (by kernel_rfl) (by kernel_rfl) ?hg ?hstep ?hfin
  case hg =>
    intro g hg v w h
    cases hg
  case hstep =>
    refine AllOps.cons 1 rfl ?_ ?_
    · intro T w' hb hl hd
      have h0 : T.getD 1 undef = .pointer (some ⟨Bl, 0, none⟩) := hl 1 (by kernel_rfl)
      have cl := cell_later (below_from B1.out hb) HL.out
      exact Or.inl ⟨.slice a n cap, w', by go_simp, rfl, Below.refl _ _⟩
    refine AllOps.cons 2 rfl ?_ ?_
    · intro T w' hb hl hd
      have h0 : T.getD 3 undef = .pointer (some ⟨w.heap.size, 0, none⟩) := hl 3 (by kernel_rfl)
      obtain ⟨c0, c1, c2, c3, c4, c5, c6⟩ := KB.out w' hb
      exact Or.inl ⟨.agg #[.int .i64 x.id, .int .i64 x.rq.queue, .int .i64 x.rq.fr, .int .i64 x.rq.un, .int .i64 x.rq.kind, .slice x.rq.pa x.rq.pn x.rq.pc, .slice x.ba x.bn x.bc], w', by go_simp, rfl, Below.refl _ _⟩
    refine AllOps.cons 3 rfl ?_ ?_
    · intro T w' hb hl hd
      have h0 : T.getD 5 undef = .slice a n cap := hd 0 5 (by kernel_rfl)
      have h1 : T.getD 6 undef = .agg #[.int .i64 x.id, .int .i64 x.rq.queue, .int .i64 x.rq.fr, .int .i64 x.rq.un, .int .i64 x.rq.kind, .slice x.rq.pa x.rq.pn x.rq.pc, .slice x.ba x.bn x.bc] := hd 1 6 (by kernel_rfl)
      refine Or.inr ⟨129, #[.slice a n cap, .agg #[.int .i64 x.id, .int .i64 x.rq.queue, .int .i64 x.rq.fr, .int .i64 x.rq.un, .int .i64 x.rq.kind, .slice x.rq.pa x.rq.pn x.rq.pc, .slice x.ba x.bn x.bc]], by go_simp, ?_⟩
      refine (KC.out w' (below_from B1.out hb)).mono ?_
      rintro e w'' ⟨rfl, hbb⟩
      exact ⟨_, rfl, rfl, hbb⟩
    refine AllOps.cons 4 rfl ?_ ?_
    · intro T w' hb hl hd
      have h0 : T.getD 2 undef = .pointer (some ⟨Be, 0, none⟩) := hl 2 (by kernel_rfl)
      have cl := cell_later (below_from B1.out hb) HE.out
      exact Or.inl ⟨.int .i64 e, w', by go_simp, rfl, Below.refl _ _⟩
    refine AllOps.cons 5 rfl ?_ ?_
    · intro T w' hb hl hd
      have h0 : T.getD 7 undef = .int .i64 C := hd 2 7 (by kernel_rfl)
      have h1 : T.getD 8 undef = .int .i64 e := hd 3 8 (by kernel_rfl)
      have hdec : (C == e) = decide (C = e) := by rw [Bool.eq_iff_iff]; simp
      exact Or.inl ⟨.bool (decide (C = e)), w', by go_simp, rfl, Below.refl _ _⟩
    refine AllOps.cons 6 rfl ?_ ?_
    · intro T w' hb hl hd
      have h0 : T.getD 9 undef = .bool (decide (C = e)) := hd 4 9 (by kernel_rfl)
      exact Or.inl ⟨.bool (decide (C = e)), w', by go_simp, rfl, Below.refl _ _⟩
    exact trivial
  case hfin =>
    intro T w' hb hs hl hd
    have e4 : T.getD 4 undef = .bool (decide (C = e)) := hd 5 4 (by kernel_rfl)
    rw [lit_then [true, true, true, true, false, false, false, false, false, false] (by kernel_rfl) hs hl]
    obtain ⟨us, hus⟩ : ∃ us : Nat → Value, (fun d => T.getD d undef) = us := ⟨_, rfl⟩
    rw [hus]
    have f4 : us 4 = .bool (decide (C = e)) := by rw [← hus]; exact e4
    simp only [fillL, f4]
    go_wp2
    go_ret
    exact ⟨rfl, below_from B1.out hb⟩
end Go.Proofs.YtckpdfkobdgjeaaGreatDoor
namespace Go.Proofs.YtckpdfkobdgjeaaGreatDoor
open Go.RowKit
set_option maxHeartbeats 400000 in
theorem IndexBk_any (fk : Nat) (caps : Array Value) (p : Bk → Bool) (hk : ∀ (args : Array Value) (w : World), (callFunc fk args).run Tryz.prog w = .ok (.enter fk args) w) (w : World) (a : Option Addr) (n cap : Nat) (l : BL) (h : BksIn w a n cap l)
    (hm : ∀ w', Below w.heap.size w w' → ∀ x : Bk, RqIn w' x.rq → RunsIn w' x.ba x.bn x.bc x.bs → Calls Tryz.prog fk (#[.agg #[.int .i64 x.id, .int .i64 x.rq.queue, .int .i64 x.rq.fr, .int .i64 x.rq.un, .int .i64 x.rq.kind, .slice x.rq.pa x.rq.pn x.rq.pc, .slice x.ba x.bn x.bc]] ++ caps) w' fun e w'' => e = .returned (.bool (!p x)) ∧ Below w'.heap.size w' w'') :
    Calls Tryz.prog 83 #[.slice a n cap, .func (.func fk) #[] caps] w fun e w' => ∃ r : Int, e = .returned (.int .i64 r) ∧ (decide (0 ≤ r)) = (!allN (fun i => p (bk l i)) n) ∧ Below w.heap.size w w' := by
  have HN := hid h.len
  have hle := h.le
  have hbd := h.capb
  have HC := hid h.cells
  have HM := hid hm
  have HH := hid h
  clear hm h
  go_enter Tryz.func83, Tryz.ntmps83
  go_wp2
  go_loopw [5, 8] (fun _ st wr => ∃ k : Nat, st = .int .i64 k ∧ k ≤ n ∧ allN (fun i => p (bk l i)) k = true ∧ Below w.heap.size w wr) (fun _ st _ => n - (intOf st).toNat)
  case atStart => exact ⟨0, rfl, by omega, rfl, Below.refl _ _⟩
  case round =>
    obtain ⟨j, rfl, hj, hall, hbel⟩ := hrel
    have HA := hid hall
    have HB := hid hbel
    clear hall hbel
    by_cases hlt : j < n
    · have hlt' : (j : Int) < n := by omega
      obtain ⟨b, off, rfl, hc⟩ := HC.out (by omega)
      obtain ⟨c0, c1, c2, c3, c4, c5, c6⟩ := hc j hlt
      replace c0 := cell_later HB.out c0
      replace c1 := cell_later HB.out c1
      replace c2 := cell_later HB.out c2
      replace c3 := cell_later HB.out c3
      replace c4 := cell_later HB.out c4
      replace c5 := cell_later HB.out c5
      replace c6 := cell_later HB.out c6
      clear hc
      have K := HM.out wr HB.out (bk l j) ((HH.out.rqs j hlt).later HB.out) ((HH.out.bites j hlt).later HB.out)
      obtain ⟨X, hX⟩ : ∃ X, bk l j = X := ⟨_, rfl⟩
      rw [hX] at K c0 c1 c2 c3 c4 c5 c6
      have HX := hid hX
      have HK := hid K
      clear hX K
      cases g : p X with
      | false =>
        go_wp2_with fail
        refine HK.out.mono ?_
        rintro e w1 ⟨rfl, hb1⟩
        rw [g]
        go_wp2
        go_ret
        exact ⟨_, rfl, by rw [allN_false (p := fun i => p (bk l i)) (k := j) (by rw [HX.out]; exact g) n hlt]; simp, below_from HB.out hb1⟩
      | true =>
        go_wp2_with fail
        refine HK.out.mono ?_
        rintro e w1 ⟨rfl, hb1⟩
        have HB1 := hid hb1
        clear hb1
        rw [g]
        go_wp2
        go_roundw
        case rel => exact ⟨j + 1, by go_num, by omega, by rw [allN, HA.out, HX.out, g]; rfl, below_from HB.out HB1.out⟩
        case measure => simp [intOf]; omega
    · obtain rfl : j = n := by omega
      go_wp2
      go_ret
      exact ⟨_, rfl, by rw [HA.out]; rfl, HB.out⟩
theorem ContainsBk_any (fk : Nat) (caps : Array Value) (p : Bk → Bool) (hk : ∀ (args : Array Value) (w : World), (callFunc fk args).run Tryz.prog w = .ok (.enter fk args) w) (w : World) (a : Option Addr) (n cap : Nat) (l : BL) (h : BksIn w a n cap l)
    (hm : ∀ w', Below w.heap.size w w' → ∀ x : Bk, RqIn w' x.rq → RunsIn w' x.ba x.bn x.bc x.bs → Calls Tryz.prog fk (#[.agg #[.int .i64 x.id, .int .i64 x.rq.queue, .int .i64 x.rq.fr, .int .i64 x.rq.un, .int .i64 x.rq.kind, .slice x.rq.pa x.rq.pn x.rq.pc, .slice x.ba x.bn x.bc]] ++ caps) w' fun e w'' => e = .returned (.bool (!p x)) ∧ Below w'.heap.size w' w'') :
    Calls Tryz.prog 48 #[.slice a n cap, .func (.func fk) #[] caps] w fun e w' => e = .returned (.bool (!allN (fun i => p (bk l i)) n)) ∧ Below w.heap.size w w' := by
  have HM := hid hm
  clear hm
  go_enter Tryz.func48, Tryz.ntmps48
  go_wp2_with fail
  refine (IndexBk_any fk caps p hk w a n cap l h HM.out).mono ?_
  rintro e w1 ⟨r, rfl, hr, hb⟩
  have HR := hid hr
  clear hr
  go_wp2
  go_ret
  exact ⟨ret_bool HR.out, hb⟩
def noB (l : QL) (b : BL) (e : Int) : Bool := allN (fun i => !decide (chkB l (bk b i) = e)) b.length
def ers (k : Nat) : Int := [7, 2, 6, 3, 1].getD k 0
def firstE (l : QL) (b : BL) : Nat → Nat → Int
  | _, 0 => 0
  | k, m + 1 => if noB l b (ers k) = true then firstE l b (k + 1) m else ers k
def chkL (l : QL) (b : BL) : Int := if chkT l = 0 then (if b.length ≤ 12 then firstE l b 0 5 else 2) else chkT l
set_option maxRecDepth 100000 in
set_option maxHeartbeats 1000000 in
theorem checkL_any (w : World) (a : Option Addr) (n cap : Nat) (l : QL) (hl : QsIn w a n cap l) (ba : Option Addr) (bn bc : Nat) (b : BL) (hb : BksIn w ba bn bc b) :
    Calls Tryz.prog 80 #[.slice a n cap, .slice ba bn bc] w fun e w' => e = .returned (.int .i64 (chkL l b)) ∧ Below w.heap.size w w' := by
  have B1 := hid ((Below.refl w.heap.size w).alloc (Nat.le_refl _) (.cells #[.slice a n cap] 37))
  have K1 := CheckT_any _ a n cap l (hl.later B1.out)
  have cL : (w.alloc (.cells #[.slice a n cap] 37)).cell? ⟨w.heap.size, 0, none⟩ = some (.slice a n cap) := by go_simp
  have HCL := hid cL
  have hble := hb.le
  have hbcb := hb.capb
  have HBN := hid hb.len
  by_cases he : chkT l = 0
  · have hx : chkL l b = if b.length ≤ 12 then firstE l b 0 5 else 2 := if_pos he
    rw [hx]
    rw [he] at K1
    have HK1 := hid K1
    clear hx K1 he
    by_cases h12 : b.length ≤ 12
    · rw [if_pos h12]
      have h12' : ¬ (12 : Int) < bn := by have := HBN.out; omega
      have KC := hid fun X (hX : Below w.heap.size w X) (cl : X.cell? ⟨w.heap.size, 0, none⟩ = some (.slice a n cap)) (Be : Nat) (e : Int) (ce : X.cell? ⟨Be, 0, none⟩ = some (.int .i64 e)) =>
        ContainsBk_any 128 #[.pointer (some ⟨w.heap.size, 0, none⟩), .pointer (some ⟨Be, 0, none⟩)] (fun x => !decide (chkB l x = e)) (fun args w => by go_simp) X ba bn bc b (hb.later hX)
          (fun w' hw' x hr hbs => (check1_any w' a n cap l (hl.later (below_from hX hw')) x hr hbs w.heap.size Be e (cell_later hw' cl) (cell_later hw' ce)).mono fun r w'' q => ⟨by rw [q.1]; simp, q.2⟩)
      obtain ⟨E, hE⟩ : ∃ E, firstE l b 0 5 = E := ⟨_, rfl⟩
      rw [hE]
      have HE := hid hE
      clear hl hb h12 hE cL
      go_enter Tryz.func80, Tryz.ntmps80
      go_wp2_with fail
      refine HK1.out.mono ?_
      rintro e w1 ⟨rfl, h1⟩
      have HB := hid (below_from B1.out h1)
      have HCL1 := hid (cell_later h1 HCL.out)
      clear h1
      go_wp2_with fail
      obtain ⟨W2, hW2⟩ : ∃ W2, W2 = w1.alloc (.cells #[.int .i64 7, .int .i64 2, .int .i64 6, .int .i64 3, .int .i64 1] 28) := ⟨_, rfl⟩
      have hb2 : Below w1.heap.size w1 W2 := by rw [hW2]; exact (Below.refl _ _).alloc (Nat.le_refl _) _
      have HC2 : Hid (∀ k, k < 5 → W2.cell? ⟨w1.heap.size, k, none⟩ = some (.int .i64 (ers k))) := by
        intro k hk
        rw [hW2]
        match k, hk with
        | 0, _ => go_simp; rfl
        | 1, _ => go_simp; rfl
        | 2, _ => go_simp; rfl
        | 3, _ => go_simp; rfl
        | 4, _ => go_simp; rfl
        | k + 5, hk => omega
      rw [← hW2]
      have HBW := hid (below_from HB.out hb2)
      have HCLW := hid (cell_later hb2 HCL1.out)
      obtain ⟨G, hG⟩ : ∃ G, w1.heap.size = G := ⟨_, rfl⟩
      rw [hG] at HC2
      rw [hG]
      clear hb2 hW2 hG
      go_loopw [7, 18] (fun _ st wr => ∃ k : Nat, st = .int .i64 k ∧ k ≤ 5 ∧ firstE l b 0 5 = firstE l b k (5 - k) ∧ Below W2.heap.size W2 wr) (fun _ st _ => 5 - (intOf st).toNat)
      case atStart => exact ⟨0, rfl, by omega, rfl, Below.refl _ _⟩
      case round =>
        obtain ⟨k, rfl, hk, hf, hbel⟩ := hrel
        have HF := hid hf
        have HBL := hid hbel
        clear hf hbel
        by_cases hlt : k < 5
        · have hlt' : (k : Int) < 5 := by omega
          have d0 := cell_later HBL.out (HC2.out k hlt)
          obtain ⟨e, hee⟩ : ∃ e, ers k = e := ⟨_, rfl⟩
          rw [hee] at d0
          have HEE := hid hee
          clear hee
          obtain ⟨W3, hW3⟩ : ∃ W3, W3 = wr.alloc (.cells #[.int .i64 e] 28) := ⟨_, rfl⟩
          have hb3 : Below wr.heap.size wr W3 := by rw [hW3]; exact (Below.refl _ _).alloc (Nat.le_refl _) _
          have ce : W3.cell? ⟨wr.heap.size, 0, none⟩ = some (.int .i64 e) := by rw [hW3]; go_simp
          have K := KC.out W3 (below_from (below_from HBW.out HBL.out) hb3) (cell_later hb3 (cell_later HBL.out HCLW.out)) wr.heap.size e ce
          rw [HBN.out, show allN (fun i => !decide (chkB l (bk b i) = e)) b.length = noB l b e from rfl] at K
          have HNB : Hid (firstE l b k (5 - k) = if noB l b e = true then firstE l b (k + 1) (5 - (k + 1)) else e) := by
            show firstE l b k (5 - k) = _
            obtain ⟨m, hm⟩ : ∃ m, 5 - k = m + 1 := ⟨5 - k - 1, by omega⟩
            rw [hm, firstE, HEE.out, show 5 - (k + 1) = m from by omega]
          obtain ⟨N, hN⟩ : ∃ N, noB l b e = N := ⟨_, rfl⟩
          rw [hN] at K HNB
          have HB3 := hid hb3
          have HW3 := hid hW3
          have HCE := hid ce
          rw [← HBN.out] at K
          have HK := hid K
          clear hN K hb3 hW3 ce
          cases N with
          | false =>
            go_wp2_with fail
            rw [← HW3.out]
            refine HK.out.mono ?_
            rintro r w4 ⟨rfl, h4⟩
            have HB4 := hid (below_from (below_from (below_from HBW.out HBL.out) HB3.out) h4)
            have c4 := cell_later h4 HCE.out
            clear h4 d0
            have HAA : Hid (e = E) := by show e = E; rw [← HE.out, HF.out, HNB.out]; rfl
            go_wp2
            go_ret
            rw [← HAA.out]
            exact ⟨rfl, HB4.out⟩
          | true =>
            go_wp2_with fail
            rw [← HW3.out]
            refine HK.out.mono ?_
            rintro r w4 ⟨rfl, h4⟩
            have HB4 := hid (below_from (below_from HBL.out HB3.out) h4)
            clear h4 d0
            go_wp2
            go_roundw
            case rel => exact ⟨k + 1, by go_num, by omega, by rw [HF.out, HNB.out]; rfl, HB4.out⟩
            case measure => simp [intOf]; omega
        · obtain rfl : k = 5 := by omega
          have HAA : Hid (0 = E) := by show 0 = E; rw [← HE.out, HF.out]; rfl
          go_wp2
          go_ret
          rw [← HAA.out]
          exact ⟨rfl, below_from HBW.out HBL.out⟩
    · rw [if_neg h12]
      have h12' : (12 : Int) < bn := by have := HBN.out; omega
      clear hl hb h12 cL
      go_enter Tryz.func80, Tryz.ntmps80
      go_wp2_with fail
      refine HK1.out.mono ?_
      rintro e w1 ⟨rfl, h1⟩
      have HB := hid (below_from B1.out h1)
      clear h1
      go_wp2
      go_ret
      exact ⟨rfl, HB.out⟩
  · have hx : chkL l b = chkT l := if_neg he
    rw [hx]
    obtain ⟨er, her⟩ : ∃ er, chkT l = er := ⟨_, rfl⟩
    rw [her] at K1 he
    rw [her]
    have hne : (er != 0) = true := by simp [he]
    have HK1 := hid K1
    clear hx K1 he her hl hb cL
    go_enter Tryz.func80, Tryz.ntmps80
    go_wp2_with fail
    refine HK1.out.mono ?_
    rintro e w1 ⟨rfl, h1⟩
    have HB := hid (below_from B1.out h1)
    clear h1
    go_wp2
    go_ret
    exact ⟨rfl, HB.out⟩
end Go.Proofs.YtckpdfkobdgjeaaGreatDoor
namespace Go.Proofs.YtckpdfkobdgjeaaGreatDoor
open Go.RowKit
def nAt (r : Rq) (b : RunL) (i : Nat) : Int := rN r.ps (rAt b i).toNat
def withTo (f : RunL) (x : Bk) : Nat → RunL
  | 0 => f
  | k + 1 => (bumpR (withTo f x k) (rN x.bs k) (rN x.bs k + lenOf x.rq x.bs k) (nAt x.rq x.bs k)).1
theorem bite_all {r : Rq} {b : RunL} (h : meets r b = true) {k : Nat} (hk : k < b.length) : 0 ≤ rAt b k ∧ rAt b k < r.ps.length ∧ 0 ≤ rN b k ∧ rN b k + lenOf r b k ≤ 48 ∧ 1 ≤ lenOf r b k ∧ lenOf r b k ≤ 24 ∧ 1 ≤ nAt r b k ∧ nAt r b k ≤ 50 := by
  obtain ⟨h1, h2, h3⟩ := meets_split.1 h
  obtain ⟨g1, g2, _⟩ := biteOk_at (h3 k hk)
  have g3 := inTime_at g2
  have g5 := isPiece_at g1
  have g6 := lenOf_at h1 g1
  have g7 := piece_at h1 (k := (rAt b k).toNat) (by omega)
  have hs := spn_at h1
  exact ⟨by omega, by omega, by omega, by omega, g6.1, g6.2, g7.2.2.1, g7.2.2.2⟩
theorem meets_some {r : Rq} {b : RunL} (h : meets r b = true) : 0 < b.length := by
  obtain ⟨h1, h2, h3⟩ := meets_split.1 h
  have := wantedN_pos h1
  omega
set_option maxRecDepth 100000 in
set_option maxHeartbeats 2000000 in
theorem with_any (w : World) (a : Option Addr) (n cap : Nat) (f : RunL) (hf : RunsIn w a n cap f) (x : Bk) (hr : RqIn w x.rq) (hb : RunsIn w x.ba x.bn x.bc x.bs) (hm : meets x.rq x.bs = true) :
    Calls Tryz.prog 82 #[.slice a n cap, .agg #[.int .i64 x.id, .int .i64 x.rq.queue, .int .i64 x.rq.fr, .int .i64 x.rq.un, .int .i64 x.rq.kind, .slice x.rq.pa x.rq.pn x.rq.pc, .slice x.ba x.bn x.bc]] w fun e w' => ∃ a' n' c', e = .returned (.slice a' n' c') ∧ RunsIn w' a' n' c' (withTo f x x.bs.length) ∧ Below w.heap.size w w' ∧ ∀ b off, a' = some ⟨b, off, none⟩ → w.heap.size ≤ b := by
  have HBN := hid hb.len
  have HPN := hid hr.len
  have hble := hb.le
  have hbcb := hb.capb
  have hple := RunsIn.le hr
  have hpcb := RunsIn.capb hr
  have hbn : 0 < x.bn := by rw [hb.len]; exact meets_some hm
  have hpn : 0 < x.rq.pn := by have := bite_all hm (k := 0) (meets_some hm); have := hr.len; omega
  obtain ⟨bb, bo, hba, hbc⟩ := hb.cells hbn
  obtain ⟨pb, po, hpa, hpc⟩ := RunsIn.cells hr hpn
  have HBC := hid hbc
  have HPC := hid hpc
  have HBI := hid fun k (hk : k < x.bn) => bite_all hm (k := k) (by rw [← hb.len]; exact hk)
  have HF := hid hf
  have B1 := hid ((Below.refl w.heap.size w).alloc (Nat.le_refl _) (.cells #[.int .i64 x.id, .int .i64 x.rq.queue, .int .i64 x.rq.fr, .int .i64 x.rq.un, .int .i64 x.rq.kind, .slice x.rq.pa x.rq.pn x.rq.pc, .slice x.ba x.bn x.bc] 60))
  have KB := hid (bk_cells w x)
  have hbblt : bb < w.heap.size := block_lt_of_cell (hbc 0 hbn).1
  have hpblt : pb < w.heap.size := block_lt_of_cell (hpc 0 hpn).1
  rw [hba, hpa] at KB B1
  rw [hba, hpa]
  rw [← HBN.out]
  clear hf hr hb hm hbc hpc hba hpa
  go_enter Tryz.func82, Tryz.ntmps82
  go_wp2_with fail
  obtain ⟨W0, hW0⟩ : ∃ W0, w.alloc (.cells #[.int .i64 x.id, .int .i64 x.rq.queue, .int .i64 x.rq.fr, .int .i64 x.rq.un, .int .i64 x.rq.kind, .slice (some ⟨pb, po, none⟩) x.rq.pn x.rq.pc, .slice (some ⟨bb, bo, none⟩) x.bn x.bc] 60) = W0 := ⟨_, rfl⟩
  rw [hW0] at KB B1
  rw [hW0]
  obtain ⟨c0, c1, c2, c3, c4, c5, c6⟩ := KB.out W0 (Below.refl _ _)
  have hsz0 : w.heap.size + 1 ≤ W0.heap.size := by rw [← hW0]; simp
  clear hW0
  go_wp2_with fail
  go_loopw [0, 11] (fun v st wr => ∃ (k : Nat) (a' : Option Addr) (n' c' : Nat), st = .int .i64 k ∧ k ≤ x.bn ∧ v = .slice a' n' c' ∧ RunsIn wr a' n' c' (withTo f x k) ∧ (0 < k → ∀ b off, a' = some ⟨b, off, none⟩ → w.heap.size ≤ b) ∧ Below W0.heap.size W0 wr) (fun _ st _ => x.bn - (intOf st).toNat)
  case atStart => exact ⟨0, a, n, cap, rfl, by omega, rfl, HF.out.later B1.out, fun h => by omega, Below.refl _ _⟩
  case round =>
    clear c0 c1 c2 c3 c4 c5 c6
    obtain ⟨k, a', n', c', rfl, hk, rfl, hR, hnew, hbel⟩ := hrel
    have HR := hid hR
    have HNW := hid hnew
    have HB := hid hbel
    have hszr : W0.heap.size ≤ wr.heap.size := hbel.size
    clear hR hnew hbel
    obtain ⟨c0, c1, c2, c3, c4, c5, c6⟩ := KB.out wr HB.out
    by_cases hlt : k < x.bn
    · have hlt' : (k : Int) < x.bn := by omega
      have hbi := HBI.out k hlt
      obtain ⟨Pn, hPn⟩ : ∃ Pn : Nat, rAt x.bs k = Pn := ⟨(rAt x.bs k).toNat, by omega⟩
      have hPlt : Pn < x.rq.pn := by have := HPN.out; omega
      have hPlt' : (Pn : Int) < x.rq.pn := by omega
      have d0 := cell_later (below_from B1.out HB.out) (HBC.out k hlt).1
      have d1 := cell_later (below_from B1.out HB.out) (HBC.out k hlt).2
      have p0 := cell_later (below_from B1.out HB.out) (HPC.out Pn hPlt).1
      have p1 := cell_later (below_from B1.out HB.out) (HPC.out Pn hPlt).2
      have hL : lenOf x.rq x.bs k = rAt x.rq.ps Pn := by rw [lenOf, hPn, Int.toNat_natCast]
      have hM : nAt x.rq x.bs k = rN x.rq.ps Pn := by rw [nAt, hPn, Int.toNat_natCast]
      have HS1 : Hid (withTo f x (k + 1) = (bumpR (withTo f x k) (rN x.bs k) (rN x.bs k + rAt x.rq.ps Pn) (rN x.rq.ps Pn)).1) := by show withTo f x (k + 1) = _; rw [withTo, hL, hM]
      rw [hL, hM] at hbi
      rw [hPn] at d0 hbi
      obtain ⟨L, hLL⟩ : ∃ L, rAt x.rq.ps Pn = L := ⟨_, rfl⟩
      obtain ⟨M, hMM⟩ : ∃ M, rN x.rq.ps Pn = M := ⟨_, rfl⟩
      obtain ⟨t, ht⟩ : ∃ t, rN x.bs k = t := ⟨_, rfl⟩
      rw [hLL] at hbi HS1 p0
      rw [hMM] at hbi HS1 p1
      rw [ht] at hbi HS1 d1
      clear hLL hMM ht hL hM hPn
      have hpbr : pb < wr.heap.size := by omega
      have hbbr : bb < wr.heap.size := by omega
      have hwr : w.heap.size < wr.heap.size := by omega
      go_wp2_with fail
      have hb2 : Below wr.heap.size wr ((wr.alloc (.cells #[.int .i64 Pn, .int .i64 t] 62)).alloc (.cells #[.int .i64 L, .int .i64 M] 64)) := ((Below.refl _ wr).alloc (Nat.le_refl _) _).alloc (by simp) _
      refine (Bump_new _ a' n' c' (withTo f x k) t (t + L) M (HR.out.later hb2)).mono ?_
      rintro e w2 ⟨a2, n2, q2, rfl, hR2, hb3, hnew2⟩
      have HR2 := hid hR2
      have hbr := below_from hb2 hb3
      have HB3 := hid (below_from HB.out hbr)
      have HNW2 : Hid (∀ b off, a2 = some ⟨b, off, none⟩ → w.heap.size ≤ b) := fun b off e => by have := hnew2 b off e; have := hb2.size; omega
      clear hR2 hb3 hnew2 hb2 hbr c0 c1 c2 c3 c4 c5 c6 d0 d1 p0 p1
      go_wp2
      go_roundw
      case rel => exact ⟨k + 1, a2, n2, q2, by go_num, by omega, rfl, by rw [HS1.out]; exact HR2.out, fun _ => HNW2.out, HB3.out⟩
      case measure => simp [intOf]; omega
    · obtain rfl : k = x.bn := by omega
      go_wp2
      go_ret
      exact ⟨_, _, _, rfl, HR.out, below_from B1.out HB.out, HNW.out hbn⟩
end Go.Proofs.YtckpdfkobdgjeaaGreatDoor
namespace Go.Proofs.YtckpdfkobdgjeaaGreatDoor
open Go.RowKit Go.Shelf
attribute [local go_sem] Oper.semAt_some
abbrev QN (N : Nat) := { x : Int // 0 ≤ x ∧ x < N }
set_option maxRecDepth 100000 in
set_option maxHeartbeats 1000000 in
theorem upQ_in (F : Fence) (n : Nat) (h68 : F.fn 130) (hro : F.round = none) (hn : 1 ≤ n) (lp Bq Bl n₀ b off N cap : Nat) (l : QL) (q : Int) (hR : Right l) (hN : N = l.length) (hqN : q < N) (J Jx : List (QN N) → World → Prop)
    (hY : ∀ pre x W, J pre W → pre.length < 5 → YieldAt F (n - 1) Tryz.prog lp #[.int .i64 x.1] W fun e W' =>
      (e = .returned (.bool true) ∧ J (pre ++ [x]) W' ∧ KeepsL n₀ Bl W W') ∨ (e = .returned (.bool false) ∧ Jx (pre ++ [x]) W'))
    (W : World) (hBq : W.cell? ⟨Bq, 0, none⟩ = some (.int .i64 q)) (hBl : Boxed W Bl 37 (.slice (some ⟨b, off, none⟩) N cap)) (hb : b < n₀)
    (hc : ∀ i, i < N → W.cell? ⟨b, off + i * 3 + 1, none⟩ = some (.int .i64 (qu l i).parent)) (h0 : J [] W) :
    CallsIn F n Tryz.prog 130 #[.func (.yield lp) #[] #[], .pointer (some ⟨Bq, 0, none⟩), .pointer (some ⟨Bl, 0, none⟩)] W fun e W' => (∃ v, e = .returned v) ∧
      ((∃ ys : List (QN N), ys.map (·.1) = lineOf l q ∧ J ys W') ∨ (∃ pre : List (QN N), True ∧ Jx pre W')) := by
  have HR := hid hR
  have HN := hid hN
  have HC := hid hc
  clear hR hN hc
  refine callsIn_of_wp Tryz.func130 rfl h68 ?_ hro
  simp only [Tryz.ntmps130, List.size_toArray, List.length_cons, List.length_nil, Nat.reduceAdd, Nat.reduceSub, Array.replicate_succ, Array.replicate_zero, List.push_toArray, List.append_toArray, List.nil_append, List.cons_append]
  gi_wp2
  gi_loopw [4] (fun p wr => ∃ (pre : List (QN N)) (x : Int), p = .int .i64 x ∧ x < N ∧ pre.map (·.1) ++ lineOf l x = lineOf l q ∧ Boxed wr Bl 37 (.slice (some ⟨b, off, none⟩) N cap) ∧ Below n₀ W wr ∧ J pre wr)
    (fun p _ => (intOf p + 1).toNat)
  case atStart => exact ⟨[], q, rfl, hqN, rfl, hBl, Below.refl _ _, h0⟩
  case round =>
    obtain ⟨pre, x, rfl, hxN, heq, hbox, hbel, hJ⟩ := hrel
    have HE := hid heq
    have HB := hid hbel
    clear heq hbel
    by_cases hx0 : 0 ≤ x
    · obtain ⟨P, rfl⟩ := Int.eq_ofNat_of_zero_le hx0
      have hPN : P < N := by omega
      have hPN' : (P : Int) < N := by omega
      have hpar := HR.out.par P (by have := HN.out; omega)
      have hst := hid (line_step HR.out (q := (P : Int)) (by omega) (by have := HN.out; omega))
      rw [Int.toNat_natCast] at hst
      have hlen : pre.length < 5 := by
        have h1 := line_len l q
        rw [← HE.out, hst.out] at h1
        simp at h1; omega
      obtain ⟨m, hm⟩ : ∃ m, (qu l P).parent = m := ⟨_, rfl⟩
      have HM := hid hm
      rw [hm] at hpar hst
      clear hm
      obtain ⟨fn, tmps, assign, body, hy, hRR⟩ := hY pre ⟨(P : Int), hx0, hPN'⟩ wr hJ hlen
      gi_wp2
      refine hRR.mono ?_
      rintro e W3 (⟨rfl, hJ3, hk3⟩ | ⟨rfl, hJx3⟩)
      · have hbox3 := hk3.2 _ hbox
        have hb3 := HB.out.trans hk3.1
        have c1 : W3.cell? ⟨b, off + P * 3 + 1, none⟩ = some (.int .i64 m) := (hb3.cell (p := ⟨b, off + P * 3 + 1, none⟩) hb).trans (by rw [HC.out P hPN, HM.out])
        have cbl := hbox3.cell
        have HB3 := hid hb3
        clear hb3
        gi_wp2
        go_roundw
        case rel => exact ⟨pre ++ [⟨(P : Int), hx0, hPN'⟩], m, rfl, by omega, by rw [← HE.out, hst.out]; simp, hbox3, HB3.out, hJ3⟩
        case measure => simp [intOf]; omega
      · gi_wp2
        refine bodyPost_ret (results_none rfl _ _ _) rfl ?_
        exact ⟨⟨_, rfl⟩, .inr ⟨pre ++ [⟨(P : Int), hx0, hPN'⟩], trivial, hJx3⟩⟩
    · have hln := line_nil (l := l) (q := x) (by omega)
      have HE2 : Hid (pre.map (·.1) = lineOf l q) := by have := HE.out; rw [hln, List.append_nil] at this; exact this
      gi_wp2
      go_end0
      exact ⟨⟨_, rfl⟩, .inl ⟨pre, HE2.out, hJ⟩⟩
theorem upQ_stops (F : Fence) (n : Nat) (h68 : F.fn 130) (hro : F.round = none) (hn : 1 ≤ n) (Bq Bl n₀ b off N cap : Nat) (l : QL) (q : Int) (hR : Right l) (hN : N = l.length) (hqN : q < N) (w : World)
    (hBq : Boxed w Bq 3 (.int .i64 q)) (hBl : Boxed w Bl 37 (.slice (some ⟨b, off, none⟩) N cap)) (hn₀ : n₀ ≤ w.heap.size) (hb : b < n₀)
    (hc : ∀ i, i < N → w.cell? ⟨b, off + i * 3 + 1, none⟩ = some (.int .i64 (qu l i).parent)) :
    SeqStopsK F n Tryz.prog 130 #[.pointer (some ⟨Bq, 0, none⟩), .pointer (some ⟨Bl, 0, none⟩)] (fun x : QN N => #[Value.int .i64 x.1]) (KeepsL n₀ Bl) (fun ys => ys.map (·.1) = lineOf l q) (fun _ => True) 5 w := fun lp J Jx W hW _ _ hY h0 =>
  upQ_in F n h68 hro hn lp Bq Bl n₀ b off N cap l q hR hN hqN J Jx hY W ((hW.cell (p := ⟨Bq, 0, none⟩) hBq.lt).trans hBq.cell) ((hW.block Bl hBl.lt).trans hBl) hb
    (fun i hi => (hW.cell (p := ⟨b, off + i * 3 + 1, none⟩) (Nat.lt_of_lt_of_le hb hn₀)).trans (hc i hi)) h0
end Go.Proofs.YtckpdfkobdgjeaaGreatDoor
namespace Go.Proofs.YtckpdfkobdgjeaaGreatDoor
open Go.RowKit Go.Shelf
theorem RunsIn.grown {X Y : World} {row : Option Nat} {a : Option Addr} {n cap : Nat} {l : RunL} (h : RunsIn X a n cap l) (hg : X.grownBy Y row) (hr : ∀ r, row = some r → ∃ o : Obj, X.heap[r]? = some o ∧ o.isCells = false) : RunsIn Y a n cap l := by
  refine ⟨h.len, h.le, h.bound, h.capb, fun hp => ?_⟩
  obtain ⟨b, off, ha, hc⟩ := h.cells hp
  have hlt : b < X.heap.size := block_lt_of_cell (hc 0 hp).1
  have hne : some b ≠ row := by
    intro e
    obtain ⟨o, h1, h2⟩ := hr b e.symm
    have h3 := (hc 0 hp).1
    simp only [World.cell?, h1] at h3
    cases o with
    | cells => cases h2
    | _ => simp at h3
  have e := hg.block b hlt hne
  exact ⟨b, off, ha, fun i hi => ⟨(World.cell?_of_block (w := X) (a := ⟨b, off + i * 2, none⟩) e).trans (hc i hi).1, (World.cell?_of_block (w := X) (a := ⟨b, off + i * 2 + 1, none⟩) e).trans (hc i hi).2⟩⟩
theorem RunsIn.blocks {w w' : World} {a : Option Addr} {n cap : Nat} {l : RunL} (h : RunsIn w a n cap l) (hb : ∀ b off, a = some ⟨b, off, none⟩ → w'.heap[b]? = w.heap[b]?) : RunsIn w' a n cap l := by
  refine ⟨h.len, h.le, h.bound, h.capb, fun hp => ?_⟩
  obtain ⟨b, off, ha, hc⟩ := h.cells hp
  have e := hb b off ha
  exact ⟨b, off, ha, fun i hi => ⟨(World.cell?_of_block (w := w) (a := ⟨b, off + i * 2, none⟩) e).trans (hc i hi).1, (World.cell?_of_block (w := w) (a := ⟨b, off + i * 2 + 1, none⟩) e).trans (hc i hi).2⟩⟩
structure Tk (W1 W : World) (G n : Nat) (T : Nat → RunL) : Prop where
  os : W.os = W1.os
  tape : W.tape = W1.tape
  output : W.output = W1.output
  size : W1.heap.size ≤ W.heap.size
  block : ∀ k, k < W1.heap.size → k ≠ G → W.heap[k]? = W1.heap[k]?
  row : ∃ v, W.rowIs G 25 n v ∧ ∀ q, q < n → ∃ a m c, v q = .slice a m c ∧ RunsIn W a m c (T q) ∧ ∀ b off, a = some ⟨b, off, none⟩ → b ≠ G
theorem Tk.own {β : Type} {W1 : World} {G n B : Nat} {T : β → Nat → RunL} (hB : W1.heap.size ≤ B) (hG : G < W1.heap.size) : OwnFrom B (fun (s : β) W => Tk W1 W G n (T s)) := by
  intro s X Y row hs hg hr
  obtain ⟨v, hv, hq⟩ := hs.row
  refine ⟨hg.os.trans hs.os, hg.tape.trans hs.tape, hg.output.trans hs.output, Nat.le_trans hs.size hg.size,
    fun k hk hne => (hg.block k (Nat.lt_of_lt_of_le hk hs.size) (fun e => by have := (hr k e.symm).1; omega)).trans (hs.block k hk hne), v,
    hv.of_block (hg.block G hv.lt (fun e => by have := (hr G e.symm).1; omega)), fun q hqn => ?_⟩
  obtain ⟨a, m, c, h1, h2, h3⟩ := hq q hqn
  exact ⟨a, m, c, h1, h2.grown hg (fun r e => (hr r e).2), h3⟩
theorem Tk.box {W1 W : World} {G n : Nat} {T : Nat → RunL} (h : Tk W1 W G n T) {B t : Nat} {v : Value} (hb : Boxed W1 B t v) (hne : B ≠ G) : Boxed W B t v := (h.block B hb.lt hne).trans hb
theorem Tk.later {W1 W W' : World} {G n : Nat} {T : Nat → RunL} (h : Tk W1 W G n T) (hb : Below W.heap.size W W') : Tk W1 W' G n T := by
  obtain ⟨v, hv, hq⟩ := h.row
  refine ⟨hb.os.trans h.os, hb.tape.trans h.tape, hb.output.trans h.output, Nat.le_trans h.size hb.size, fun k hk hne => (hb.block k (by have := h.size; omega)).trans (h.block k hk hne), v, hv.of_block (hb.block G hv.lt), fun q hqn => ?_⟩
  obtain ⟨a, m, c, h1, h2, h3⟩ := hq q hqn
  exact ⟨a, m, c, h1, h2.later hb, h3⟩
theorem Tk.hit {W1 W : World} {G n : Nat} {T : Nat → RunL} (h : Tk W1 W G n T) (j : Nat) {a : Option Addr} {m c : Nat} {g : RunL} (hR : RunsIn W a m c g) (hne : ∀ b off, a = some ⟨b, off, none⟩ → b ≠ G) :
    Tk W1 (W.setCell ⟨G, j, none⟩ (.slice a m c)) G n (fun q => if q = j then g else T q) := by
  obtain ⟨v, hv, hq⟩ := h.row
  refine ⟨h.os, h.tape, h.output, by rw [show (W.setCell ⟨G, j, none⟩ (.slice a m c)).heap.size = W.heap.size by simp [World.setCell]]; exact h.size,
    fun k hk hn => (Below.heap_setCell _ _ _ k hn).trans (h.block k hk hn), _, hv.set j _, fun q hqn => ?_⟩
  by_cases e : q = j
  · subst e
    refine ⟨a, m, c, if_pos rfl, ?_, hne⟩
    rw [if_pos rfl]
    exact hR.blocks fun b off e => Below.heap_setCell _ _ _ b (by simpa using hne b off e)
  · obtain ⟨a', m', c', h1, h2, h3⟩ := hq q hqn
    refine ⟨a', m', c', by rw [if_neg e]; exact h1, ?_, h3⟩
    rw [if_neg e]
    exact h2.blocks fun b off e => Below.heap_setCell _ _ _ b (by simpa using h3 b off e)
theorem Tk.congr {W1 W : World} {G n : Nat} {T T' : Nat → RunL} (h : Tk W1 W G n T) (e : ∀ q, q < n → T q = T' q) : Tk W1 W G n T' := by
  obtain ⟨v, hv, hq⟩ := h.row
  refine ⟨h.os, h.tape, h.output, h.size, h.block, v, hv, fun q hqn => ?_⟩
  rw [← e q hqn]
  exact hq q hqn
theorem Tk.below {W1 W : World} {G n B : Nat} {T : Nat → RunL} (h : Tk W1 W G n T) (hB : B ≤ G) (hs : G < W1.heap.size) : Below B W1 W :=
  ⟨h.os, h.tape, h.output, h.size, fun k hk => h.block k (by omega) (by omega)⟩
theorem Tk.at {W1 W : World} {G n : Nat} {T : Nat → RunL} (h : Tk W1 W G n T) {q : Nat} (hq : q < n) : ∃ a m c, W.cell? ⟨G, q, none⟩ = some (.slice a m c) ∧ W.frozen? ⟨G, q, none⟩ = false ∧ RunsIn W a m c (T q) ∧ ∀ b off, a = some ⟨b, off, none⟩ → b ≠ G := by
  obtain ⟨v, hv, hqq⟩ := h.row
  obtain ⟨a, m, c, h1, h2, h3⟩ := hqq q hq
  exact ⟨a, m, c, by rw [← h1]; exact hv.cell hq, hv.frozen q, h2, h3⟩
theorem Tk.from {W1 W2 W : World} {G n : Nat} {T : Nat → RunL} (h : Tk W2 W G n T) (hb : ∀ k, k < W1.heap.size → k ≠ G → W2.heap[k]? = W1.heap[k]?) (h1 : W2.os = W1.os) (h2 : W2.tape = W1.tape) (h3 : W2.output = W1.output) (h4 : W1.heap.size ≤ W2.heap.size) : Tk W1 W G n T :=
  ⟨h.os.trans h1, h.tape.trans h2, h.output.trans h3, Nat.le_trans h4 h.size, fun k hk hn => (h.block k (by omega) hn).trans (hb k hk hn), h.row⟩
def addAll (x : Bk) (T : Nat → RunL) : List Int → Nat → RunL
  | [] => T
  | p :: ps => addAll x (fun q => if q = p.toNat then withTo (T p.toNat) x x.bs.length else T q) ps
theorem addAll_more (x : Bk) : ∀ (ps : List Int) (T : Nat → RunL) (p : Int), addAll x T (ps ++ [p]) = fun q => if q = p.toNat then withTo (addAll x T ps p.toNat) x x.bs.length else addAll x T ps q
  | [], T, p => rfl
  | y :: ps, T, p => by rw [List.cons_append, addAll, addAll_more x ps _ p]; rfl
def takenTo (l : QL) (b : BL) : Nat → Nat → RunL
  | 0 => fun _ => [(0, 0)]
  | j + 1 => addAll (bk b j) (takenTo l b j) (lineOf l (bk b j).rq.queue)
theorem Tryz.info47 : (Tryz.prog.info? 25).map (fun i => (i.zero, i.size, i.bytes)) = some (some (.slice none 0 0), 1, 24) := by kernel_rfl
theorem no_error {l : QL} {b : BL} (h : chkL l b = 0) : chkT l = 0 ∧ b.length ≤ 12 ∧ ∀ i, i < b.length → chkB l (bk b i) = 0 := by
  unfold chkL at h
  by_cases h1 : chkT l = 0
  · rw [if_pos h1] at h
    by_cases h2 : b.length ≤ 12
    · rw [if_pos h2] at h
      refine ⟨h1, h2, fun i hi => ?_⟩
      have h' : (if noB l b 7 = true then (if noB l b 2 = true then (if noB l b 6 = true then (if noB l b 3 = true then (if noB l b 1 = true then (0 : Int) else 1) else 3) else 6) else 2) else 7) = 0 := h
      have e0 : noB l b 7 = true := by cases e : noB l b 7 <;> simp [e] at h' ⊢
      rw [if_pos e0] at h'
      have e1 : noB l b 2 = true := by cases e : noB l b 2 <;> simp [e] at h' ⊢
      rw [if_pos e1] at h'
      have e2 : noB l b 6 = true := by cases e : noB l b 6 <;> simp [e] at h' ⊢
      rw [if_pos e2] at h'
      have e3 : noB l b 3 = true := by cases e : noB l b 3 <;> simp [e] at h' ⊢
      rw [if_pos e3] at h'
      have e4 : noB l b 1 = true := by cases e : noB l b 1 <;> simp [e] at h' ⊢
      have hne : ∀ k, noB l b k = true → chkB l (bk b i) ≠ k := fun k hk => by
        have := allN_iff.1 hk i hi
        simpa using this
      have h7 := hne 7 e0
      have h22 := hne 2 e1
      have h6 := hne 6 e2
      have h3 := hne 3 e3
      have h11 := hne 1 e4
      revert h7 h22 h6 h3 h11
      unfold chkB chkQR chkR
      rw [if_pos h1]
      repeat' split
      all_goals simp
    · rw [if_neg h2] at h; simp at h
  · rw [if_neg h1] at h; exact absurd h h1
theorem no_error_at {l : QL} {x : Bk} (ht : chkT l = 0) (h : chkB l x = 0) : meets x.rq x.bs = true ∧ 0 ≤ x.rq.queue ∧ x.rq.queue < l.length := by
  unfold chkB at h
  by_cases h1 : chkQR l x.rq = 0
  · rw [if_pos h1] at h
    refine ⟨?_, ?_⟩
    · by_cases h2 : meets x.rq x.bs = true
      · exact h2
      · rw [if_neg h2] at h; simp at h
    · unfold chkQR at h1
      rw [if_pos ht] at h1
      unfold chkR at h1
      cases hm : missing l.length x.rq.queue with
      | true =>
        rw [hm, if_pos rfl] at h1
        revert h1
        repeat' split
        all_goals simp
      | false =>
        simp [missing, wth] at hm
        omega
  · rw [if_neg h1] at h; exact absurd h h1
end Go.Proofs.YtckpdfkobdgjeaaGreatDoor
namespace Go.Proofs.YtckpdfkobdgjeaaGreatDoor
def biteV (x : Bk) (k t : Nat) : Int := if rN x.bs k ≤ t ∧ (t : Int) < rN x.bs k + lenOf x.rq x.bs k then nAt x.rq x.bs k else 0
def bookTo (x : Bk) (t : Nat) : Nat → Int
  | 0 => 0
  | k + 1 => bookTo x t k + biteV x k t
def useTo (l : QL) (b : BL) (q t : Nat) : Nat → Int
  | 0 => 0
  | j + 1 => useTo l b q t j + if (q : Int) ∈ lineOf l (bk b j).rq.queue then bookTo (bk b j) t (bk b j).bs.length else 0
theorem bump_up {g : RunL} (hg : Fine g) {a b n : Int} (h0 : 0 ≤ a) (h1 : a < b) (h2 : b ≤ 48) (hn : 1 ≤ n ∧ n ≤ 50) (hr : ∀ u : Nat, u < 48 → 0 ≤ vals g u ∧ vals g u ≤ 1000000) :
    Fine (bumpR g a b n).1 ∧ ∀ u : Nat, u < 48 → vals (bumpR g a b n).1 u = vals g u + if a ≤ u ∧ (u : Int) < b then n else 0 := by
  have hs : (spn a b && bdd n) = true := by
    rw [Bool.and_eq_true]
    constructor
    · simp [spn]; omega
    · rw [bdd_iff]; omega
  have ha : allTo (bumpV g a b n) 48 = true := by
    rw [allTo_iff]
    intro i hi
    have := hr i hi
    rw [bdd_iff]
    unfold bumpV
    split <;> omega
  have he : bumpR g a b n = (foldTo (bumpV g a b n) 48, 0) := by
    rw [bumpR, if_pos (fine_iff.2 hg), if_pos hs, tell, if_pos ha]
  rw [he]
  refine ⟨foldTo_fine _ 48 (by omega) (by omega) ha, fun u hu => ?_⟩
  show vals (foldTo (bumpV g a b n) 48) u = _
  rw [show vals (foldTo (bumpV g a b n) 48) u = bumpV g a b n u from foldTo_val _ ha u hu]
  unfold bumpV
  split <;> omega
theorem meets_few {r : Rq} {b : RunL} (h : meets r b = true) : b.length ≤ 3 := by
  obtain ⟨h1, h2, h3⟩ := meets_split.1 h
  have := of_decide_eq_true (chkR_zero.1 h1).2.1
  rw [wantedN] at h2
  split at h2 <;> omega
theorem biteV_bd {x : Bk} (h : meets x.rq x.bs = true) {k : Nat} (hk : k < x.bs.length) (t : Nat) : 0 ≤ biteV x k t ∧ biteV x k t ≤ 50 := by
  have := bite_all h hk
  unfold biteV
  split <;> omega
theorem bookTo_bd {x : Bk} (h : meets x.rq x.bs = true) (t : Nat) : ∀ k, k ≤ x.bs.length → 0 ≤ bookTo x t k ∧ bookTo x t k ≤ 50 * k
  | 0, _ => by simp [bookTo]
  | k + 1, hk => by
    have h1 := bookTo_bd h t k (by omega)
    have h2 := biteV_bd h (k := k) (by omega) t
    rw [bookTo]
    omega
theorem with_val {f : RunL} (hf : Fine f) {x : Bk} (h : meets x.rq x.bs = true) (hr : ∀ u : Nat, u < 48 → 0 ≤ vals f u ∧ vals f u ≤ 500000) : ∀ k, k ≤ x.bs.length → Fine (withTo f x k) ∧ ∀ u : Nat, u < 48 → vals (withTo f x k) u = vals f u + bookTo x u k
  | 0, _ => ⟨hf, fun u _ => by rw [withTo, bookTo]; omega⟩
  | k + 1, hk => by
    obtain ⟨h1, h2⟩ := with_val hf h hr k (by omega)
    have hb := bite_all h (k := k) (by omega)
    have h3 := meets_few h
    obtain ⟨g1, g2⟩ := bump_up h1 (a := rN x.bs k) (b := rN x.bs k + lenOf x.rq x.bs k) (n := nAt x.rq x.bs k) (by omega) (by omega) (by omega) (by omega) (fun u hu => by
      rw [h2 u hu]
      have := hr u hu
      have := bookTo_bd h u k (by omega)
      omega)
    refine ⟨g1, fun u hu => ?_⟩
    show vals (bumpR (withTo f x k) (rN x.bs k) (rN x.bs k + lenOf x.rq x.bs k) (nAt x.rq x.bs k)).1 u = _
    rw [g2 u hu, h2 u hu, bookTo, biteV]
    omega
theorem line_down {l : QL} (hR : Right l) : ∀ (m : Nat) (q : Int), q < l.length → q < m → (lineOf l q).Nodup ∧ ∀ x ∈ lineOf l q, 0 ≤ x ∧ x ≤ q
  | 0, q, h1, h2 => by rw [line_nil (by omega)]; exact ⟨List.nodup_nil, fun x hx => by cases hx⟩
  | m + 1, q, h1, h2 => by
    by_cases e : q < 0
    · rw [line_nil e]; exact ⟨List.nodup_nil, fun x hx => by cases hx⟩
    · have hp := hR.par q.toNat (by omega)
      obtain ⟨g1, g2⟩ := line_down hR m (qu l q.toNat).parent (by omega) (by omega)
      rw [line_step hR (by omega) h1]
      refine ⟨List.nodup_cons.2 ⟨fun hm => ?_, g1⟩, fun x hx => ?_⟩
      · have := g2 q hm
        omega
      · rcases List.mem_cons.1 hx with rfl | hx
        · omega
        · have := g2 x hx
          omega
theorem addAll_at (x : Bk) : ∀ (ps : List Int) (T : Nat → RunL), ps.Nodup → (∀ y ∈ ps, 0 ≤ y) → ∀ q : Nat, addAll x T ps q = if (q : Int) ∈ ps then withTo (T q) x x.bs.length else T q
  | [], T, _, _, q => by simp [addAll]
  | p :: ps, T, hn, hp, q => by
    rw [List.nodup_cons] at hn
    have h0 := hp p (by simp)
    rw [addAll, addAll_at x ps _ hn.2 (fun y hy => hp y (by simp [hy])) q]
    by_cases e : q = p.toNat
    · have e2 : (q : Int) = p := by omega
      rw [if_neg (by rw [e2]; exact hn.1), if_pos e, if_pos (by rw [e2]; simp), e]
    · have e2 : (q : Int) ≠ p := by omega
      rw [if_neg e]
      by_cases e3 : (q : Int) ∈ ps
      · rw [if_pos e3, if_pos (by simp [e3])]
      · rw [if_neg e3, if_neg (by simp [e3, e2])]
structure Clean (l : QL) (b : BL) : Prop where
  tree : chkT l = 0
  few : b.length ≤ 12
  each : ∀ i, i < b.length → chkB l (bk b i) = 0
theorem clean_of {l : QL} {b : BL} (h : chkL l b = 0) : Clean l b := by
  obtain ⟨h1, h2, h3⟩ := no_error h
  exact ⟨h1, h2, h3⟩
theorem chkL_clean {l : QL} {b : BL} (h : Clean l b) : chkL l b = 0 := by
  have hno : ∀ e : Int, e ≠ 0 → noB l b e = true := fun e he => by
    unfold noB
    rw [allN_iff]
    intro i hi
    rw [h.each i hi]
    simpa using fun h => he h.symm
  unfold chkL
  rw [if_pos h.tree, if_pos h.few]
  show (if noB l b 7 = true then (if noB l b 2 = true then (if noB l b 6 = true then (if noB l b 3 = true then (if noB l b 1 = true then (0 : Int) else 1) else 3) else 6) else 2) else 7) = 0
  rw [if_pos (hno 7 (by decide)), if_pos (hno 2 (by decide)), if_pos (hno 6 (by decide)), if_pos (hno 3 (by decide)), if_pos (hno 1 (by decide))]
theorem taken_val {l : QL} {b : BL} (h : Clean l b) : ∀ (j : Nat), j ≤ b.length → ∀ q : Nat, Fine (takenTo l b j q) ∧ ∀ t : Nat, t < 48 → vals (takenTo l b j q) t = useTo l b q t j ∧ 0 ≤ useTo l b q t j ∧ useTo l b q t j ≤ 150 * j
  | 0, _, q => ⟨by show Fine [(0, 0)]; exact fine_iff.1 (by decide), fun t _ => ⟨rfl, by simp [useTo], by simp [useTo]⟩⟩
  | j + 1, hj, q => by
    obtain ⟨h1, h2⟩ := taken_val h j (by omega) q
    obtain ⟨hm, hq0, hq1⟩ := no_error_at h.tree (h.each j (by omega))
    have hR := right_of h.tree
    obtain ⟨g1, g2⟩ := line_down hR (((bk b j).rq.queue).toNat + 1) (bk b j).rq.queue (by omega) (by omega)
    have hfew := h.few
    have hw := with_val h1 hm (fun u hu => by have := h2 u hu; omega) (bk b j).bs.length (Nat.le_refl _)
    rw [takenTo, addAll_at _ _ _ g1 (fun y hy => (g2 y hy).1)]
    have h3 := meets_few hm
    by_cases e : (q : Int) ∈ lineOf l (bk b j).rq.queue
    · rw [if_pos e]
      refine ⟨hw.1, fun t ht => ?_⟩
      have hb := bookTo_bd hm t _ (Nat.le_refl _)
      have := h2 t ht
      rw [hw.2 t ht, useTo, if_pos e]
      omega
    · rw [if_neg e]
      refine ⟨h1, fun t ht => ?_⟩
      have := h2 t ht
      rw [useTo, if_neg e]
      omega
end Go.Proofs.YtckpdfkobdgjeaaGreatDoor
namespace Go.Proofs.YtckpdfkobdgjeaaGreatDoor
open Go.RowKit Go.Shelf
attribute [local go_sem] Oper.semAt_some
theorem leaves_marksC {F : Fence} {n : Nat} {P : Program} {fn : Func} {tmps : Array Value} {R : Ending → World → Prop} (B : Nat) : ∀ (ds : List Nat) (W : World), B ≤ W.heap.size → ds.Nodup → (∀ D ∈ ds, B ≤ D ∧ W.heap[D]? = some (.deferred (some []))) →
    (∀ W', Below B W W' → (∀ (k : Nat) (o : Obj), W.heap[k]? = some o → o.isCells = true → W'.heap[k]? = some o) → LeavesIn F n P fn tmps R [] .returning W') → LeavesInM F n P fn tmps R (ds.map fun D => { target := .collected D, args := #[] }) .returning W
  | [], W, _, _, _, h => h W (Below.refl _ _) (fun _ _ h _ => h)
  | D :: ds, W, hB, hnd, hm, h => by
    have hD := hm D (by simp)
    have hb : Below B W (W.putObj D (.deferred none)) := (Below.refl B W).grown (grownBy_putObj' W D _) hB (fun k e => by cases e; exact hD.1)
    rw [List.nodup_cons] at hnd
    refine ⟨by simp, .inl ⟨D, _, rfl, run_takeDeferred hD.2, leaves_marksC B ds _ (Nat.le_trans hB hb.size) hnd.2 (fun D' hD' => ⟨(hm D' (by simp [hD'])).1, ?_⟩) (fun W' hW' hcl => h W' (hb.trans hW') (fun k o hk ho => hcl k o ?_ ho))⟩⟩
    · rw [World.putObj_heap_other (fun e => by subst e; exact hnd.1 hD')]
      exact (hm D' (by simp [hD'])).2
    · rw [World.putObj_heap_other (fun e => by subst e; rw [hD.2] at hk; cases hk; cases ho)]
      exact hk
theorem RunsIn.kept {X Y : World} {a : Option Addr} {n cap : Nat} {l : RunL} (h : RunsIn X a n cap l) (hcl : ∀ (k : Nat) (o : Obj), X.heap[k]? = some o → o.isCells = true → Y.heap[k]? = some o) : RunsIn Y a n cap l := by
  refine ⟨h.len, h.le, h.bound, h.capb, fun hp => ?_⟩
  obtain ⟨b, off, ha, hc⟩ := h.cells hp
  have hlt : b < X.heap.size := block_lt_of_cell (hc 0 hp).1
  have e : Y.heap[b]? = X.heap[b]? := by
    have h1 : X.heap[b]? = some X.heap[b] := Array.getElem?_eq_getElem hlt
    rw [h1]
    refine hcl b _ h1 ?_
    have h3 := (hc 0 hp).1
    simp only [World.cell?, h1] at h3
    cases ho : X.heap[b] with
    | cells => rfl
    | _ => rw [ho] at h3; simp at h3
  exact ⟨b, off, ha, fun i hi => ⟨(World.cell?_of_block (w := X) (a := ⟨b, off + i * 2, none⟩) e).trans (hc i hi).1, (World.cell?_of_block (w := X) (a := ⟨b, off + i * 2 + 1, none⟩) e).trans (hc i hi).2⟩⟩
theorem Tk.marks {W1 W W' : World} {G n B : Nat} {T : Nat → RunL} (h : Tk W1 W G n T) (hb : Below B W W') (hcl : ∀ (k : Nat) (o : Obj), W.heap[k]? = some o → o.isCells = true → W'.heap[k]? = some o) (hG : W1.heap.size = B ∧ G < B) : Tk W1 W' G n T := by
  obtain ⟨v, hv, hq⟩ := h.row
  refine ⟨hb.os.trans h.os, hb.tape.trans h.tape, hb.output.trans h.output, Nat.le_trans h.size hb.size, fun k hk hne => (hb.block k (by omega)).trans (h.block k hk hne), v, hv.of_block (hb.block G hG.2), fun q hqn => ?_⟩
  obtain ⟨a, m, c, h1, h2, h3⟩ := hq q hqn
  exact ⟨a, m, c, h1, h2.kept hcl, h3⟩
def OInv (qb qo n cap G : Nat) (ba : Option Addr) (bn bc : Nat) (l : QL) (b : BL) (c8 c25 c26 c27 c28 c29 c30 c31 : Value) (W1 : World) (a : Act) (W : World) : Prop :=
  ∃ (j : Nat) (ds : List Nat) (u10 u35 u36 u37 u38 u39 u40 u41 u42 u53 : Value), a = { tmps := #[.slice (some ⟨qb, qo, none⟩) n cap, .slice ba bn bc, undef, undef, .slice none 0 0, .int .i64 0, .int .i64 0, .pointer (some ⟨G + 1, 0, none⟩), c8, undef, u10, undef, .slice (some ⟨qb, qo, none⟩) n cap, .slice ba bn bc, .int .i64 0, .int .i64 0, .bool false, undef, .slice (some ⟨qb, qo, none⟩) n cap, .int .i64 n, .slice (some ⟨G, 0, none⟩) n n, .slice (some ⟨G, 0, none⟩) n n, .int .i64 n, .int .i64 n, .bool false, c25, c26, c27, c28, c29, c30, c31, .slice ba bn bc, .int .i64 bn, .int .i64 j, u35, u36, u37, u38, u39, u40, u41, u42, undef, undef, undef, undef, undef, undef, undef, undef, undef, undef, u53, undef], defers := ds.map fun D => { target := .collected D, args := #[] } } ∧
    j ≤ bn ∧ Tk W1 W G n (takenTo l b j) ∧ (∀ D ∈ ds, G + 2 ≤ D ∧ D < W.heap.size ∧ W.heap[D]? = some (.deferred (some []))) ∧ ds.Nodup
def OMu (bn : Nat) (a : Act) (_ : World) : Nat := bn - (intOf (a.tmps.getD 34 undef)).toNat
theorem of_next {qb qo n cap G : Nat} {ba : Option Addr} {bn bc : Nat} {l : QL} {b : BL} {c8 c25 c26 c27 c28 c29 c30 c31 : Value} {W1 W W0 W' : World} {j D : Nat} {T : Nat → RunL} {ds : List Nat} {u10 u35 u36 u37 u38 u39 u40 u41 u42 u53 : Value} (hj : j < bn) (hA : Tk W1 W G n T) (hB0 : Below W.heap.size W W0) (hAf : Tk W0 W' G n (takenTo l b (j + 1))) (hsW : G + 2 ≤ W.heap.size) (hs1 : W1.heap.size = G + 2)
    (hms : ∀ D ∈ ds, G + 2 ≤ D ∧ D < W.heap.size ∧ W.heap[D]? = some (.deferred (some []))) (hnd : ds.Nodup) (hD : W0.heap.size ≤ D) (hK : W'.heap[D]? = some (.deferred (some []))) :
    OInv qb qo n cap G ba bn bc l b c8 c25 c26 c27 c28 c29 c30 c31 W1 { tmps := #[.slice (some ⟨qb, qo, none⟩) n cap, .slice ba bn bc, undef, undef, .slice none 0 0, .int .i64 0, .int .i64 0, .pointer (some ⟨G + 1, 0, none⟩), c8, undef, u10, undef, .slice (some ⟨qb, qo, none⟩) n cap, .slice ba bn bc, .int .i64 0, .int .i64 0, .bool false, undef, .slice (some ⟨qb, qo, none⟩) n cap, .int .i64 n, .slice (some ⟨G, 0, none⟩) n n, .slice (some ⟨G, 0, none⟩) n n, .int .i64 n, .int .i64 n, .bool false, c25, c26, c27, c28, c29, c30, c31, .slice ba bn bc, .int .i64 bn, .int .i64 ((j : Int) + 1), u35, u36, u37, u38, u39, u40, u41, u42, undef, undef, undef, undef, undef, undef, undef, undef, undef, undef, u53, undef], defers := { target := .collected D, args := #[] } :: (ds.map fun D => { target := .collected D, args := #[] }) } W' := by
  refine ⟨j + 1, D :: ds, u10, u35, u36, u37, u38, u39, u40, u41, u42, u53, by simp, hj, ?_, fun D' hD' => ?_, ?_⟩
  · exact hAf.from (fun k hk hne => (hB0.block k (by omega)).trans (hA.block k hk hne)) (hB0.os.trans hA.os) (hB0.tape.trans hA.tape) (hB0.output.trans hA.output) (Nat.le_trans hA.size hB0.size)
  · rw [List.mem_cons] at hD'
    rcases hD' with rfl | hD'
    · exact ⟨by have := hB0.size; omega, (Array.getElem?_eq_some_iff.1 hK).1, hK⟩
    · obtain ⟨h1, h2, h3⟩ := hms D' hD'
      exact ⟨h1, by have := hB0.size; have := hAf.size; omega, (hAf.block D' (by have := hB0.size; omega) (by omega)).trans ((hB0.block D' h2).trans h3)⟩
  · rw [List.nodup_cons]
    exact ⟨fun hD' => by have := (hms D hD').2.1; have := hB0.size; omega, hnd⟩
set_option maxRecDepth 100000 in
set_option maxHeartbeats 4000000 in
theorem Of_ok (w : World) (a : Option Addr) (n cap : Nat) (l : QL) (hl : QsIn w a n cap l) (ba : Option Addr) (bn bc : Nat) (b : BL) (hb : BksIn w ba bn bc b) (hc : chkL l b = 0) :
    Calls Tryz.prog 46 #[.slice a n cap, .slice ba bn bc] w fun e w' => ∃ G, e = .returned (.tuple #[.slice (some ⟨G, 0, none⟩) n n, .int .i64 0]) ∧ w.heap.size ≤ G ∧ (∀ q, q < n → ∃ a m c, w'.cell? ⟨G, q, none⟩ = some (.slice a m c) ∧ RunsIn w' a m c (takenTo l b b.length q)) ∧ Below w.heap.size w w' := by
  have HN := hid hl.len
  have hcb := hl.capb
  have hle := hl.le
  obtain ⟨ht, h12, hbk⟩ := no_error hc
  have HR := hid (right_of ht)
  have hp : 0 < n := by have := HR.out.pos; have := HN.out; omega
  have h5 : n ≤ 5 := by have := HR.out.five; have := HN.out; omega
  obtain ⟨qb, qo, rfl, hcell⟩ := hl.cells hp
  have hblt : qb < w.heap.size := block_lt_of_cell (hcell 0 hp).1
  have HC := hid hcell
  have HL := hid hl
  have HBK := hid hb
  have HBN := hid hb.len
  have hble := hb.le
  have hbcb := hb.capb
  have HOK := hid fun i (hi : i < b.length) => no_error_at ht (hbk i hi)
  have hK := checkL_any w (some ⟨qb, qo, none⟩) n cap l hl ba bn bc b hb
  rw [hc] at hK
  have HK := hid hK
  clear hcell hl hb hc ht h12 hbk hK
  have hmk := run_make_row' (P := Tryz.prog) 97 25 (.slice none 0 0) 24 Tryz.underlying97 Tryz.info47 rfl .i64 .i64 n (by omega) (by omega)
  refine (callsIn_wide (n := 4)).1 ?_
  refine callsIn_of_wp_marks Tryz.func46 rfl trivial ?_ rfl
  simp only [Tryz.ntmps46, List.size_toArray, List.length_cons, List.length_nil, Nat.reduceAdd, Nat.reduceSub, Array.replicate_succ, Array.replicate_zero, List.push_toArray, List.append_toArray, List.nil_append, List.cons_append]
  gi_wp2_with fail
  refine ⟨trivial, (callsIn_wide.2 HK.out).mono ?_⟩
  rintro e w1 ⟨rfl, B1⟩
  have HB1 := hid B1
  have hsz1 : w.heap.size ≤ w1.heap.size := B1.size
  clear B1
  gi_wp2_with fail
  clear hmk
  obtain ⟨W1, hW1⟩ : ∃ W1, (w1.alloc (.cells (madeCells #[.slice none 0 0] n) 25)).alloc (.cells #[.slice (some ⟨w1.heap.size, 0, none⟩) n n] 97) = W1 := ⟨_, rfl⟩
  have T1 : Hid (W1.rowIs w1.heap.size 25 n (fun _ => .slice none 0 0)) := by rw [← hW1]; exact (World.rowIs_made w1 _ n 25).alloc _
  have bU : Hid (Boxed W1 (w1.heap.size + 1) 97 (.slice (some ⟨w1.heap.size, 0, none⟩) n n)) := by
    rw [← hW1]
    have := Boxed.new (w1.alloc (.cells (madeCells #[.slice none 0 0] n) 25)) 97 (.slice (some ⟨w1.heap.size, 0, none⟩) n n)
    rwa [World.size_alloc] at this
  have BW1 : Hid (Below w1.heap.size w1 W1) := by rw [← hW1]; exact ((Below.refl _ w1).alloc (Nat.le_refl _) _).alloc (by simp) _
  have hsW1 : W1.heap.size = w1.heap.size + 2 := by rw [← hW1]; simp
  rw [hW1]
  clear hW1
  have TK1 : Hid (Tk W1 W1 w1.heap.size n (fun _ => [])) := ⟨rfl, rfl, rfl, Nat.le_refl _, fun _ _ _ => rfl, _, T1.out, fun q hq => ⟨none, 0, 0, rfl, runsIn_nil _, fun b off e => by cases e⟩⟩
  obtain ⟨G, hG⟩ : ∃ G, w1.heap.size = G := ⟨_, rfl⟩
  rw [hG] at T1 bU BW1 hsW1 TK1 hsz1
  rw [hG]
  have HG := hid hG
  clear hG
  have cU := bU.out.cell
  gi_wp2_with fail
  gi_loopw [8, 23] (fun _ p wr => ∃ i : Nat, p = .int .i64 i ∧ i ≤ n ∧ Tk W1 wr G n (fun q => if q < i then [(0, 0)] else [])) (fun _ p _ => n - (intOf p).toNat)
  case atStart => exact ⟨0, rfl, by omega, TK1.out.congr fun q hq => by rw [if_neg (by omega)]⟩
  case round =>
    clear cU
    obtain ⟨i, rfl, hi, htk⟩ := hrel
    have HT := hid htk
    have cU := (htk.box bU.out (by omega)).cell
    have hszr : W1.heap.size ≤ wr.heap.size := htk.size
    have hGr : G < wr.heap.size := by omega
    have hG1r : G + 1 < wr.heap.size := by omega
    clear htk
    by_cases hlt : i < n
    · have hlt' : (i : Int) < n := by omega
      obtain ⟨a', m', c', tc, tf, _, _⟩ := HT.out.at hlt
      gi_wp2
      go_roundw
      case rel =>
        have hb2 : Below wr.heap.size wr (wr.alloc (.cells #[.int .i64 0, .int .i64 0] 55)) := (Below.refl _ _).alloc (Nat.le_refl _) _
        have h1 := (HT.out.later hb2).hit i (a := some ⟨wr.heap.size, 0, none⟩) (m := 1) (c := 1) (g := [(0, 0)]) (runs_lit wr [(0, 0)] _ 1 rfl rfl (by simp)) (fun b off e => by cases e; omega)
        rw [World.setCell_alloc_past (hn := hGr)] at h1
        exact ⟨i + 1, by go_num, by omega, h1.congr fun q hq => by
          by_cases e : q = i
          · rw [if_pos e, if_pos (by omega)]
          · rw [if_neg e]
            by_cases e2 : q < i
            · rw [if_pos e2, if_pos (by omega)]
            · rw [if_neg e2, if_neg (by omega)]⟩
      case measure => simp [intOf]; omega
    · obtain rfl : n = i := by omega
      have HT0 : Hid (Tk W1 wr G n (takenTo l b 0)) := HT.out.congr fun q hq => by rw [if_pos hq]; rfl
      gi_wp2_with fail
      refine wpIn_loop (OInv qb qo n cap G ba bn bc l b u8 u25 u26 u27 u28 u29 u30 u31 W1) (OMu bn) ?start ?round
      case start => exact ⟨0, [], undef, undef, undef, undef, undef, undef, undef, undef, undef, undef, rfl, by omega, HT0.out, fun D hD => by simp at hD, by simp⟩
      case round =>
        clear cU HT HT0 hszr hGr hG1r hlt hi
        rintro a W ⟨j, ds, u10, u35, u36, u37, u38, u39, u40, u41, u42, u53, rfl, hj, hA, hms, hnd⟩
        have HA := hid hA
        have HMS := hid hms
        have HND := hid hnd
        have hsW : G + 2 ≤ W.heap.size := by have := hA.size; omega
        have hbw : Below w.heap.size w W := (HB1.out.trans (BW1.out.mono (by have := HG.out; omega))).trans (hA.below (B := w.heap.size) (by omega) (by omega))
        have HBW := hid hbw
        clear hA hms hnd hbw
        generalize hds : (ds.map fun D => ({ target := .collected D, args := #[] } : Deferred)) = dm
        have HDS := hid hds
        clear hds
        by_cases hlt : j < bn
        · have hlt' : (j : Int) < bn := by omega
          obtain ⟨bb, bo, rfl, hcs⟩ := HBK.out.cells (by omega)
          obtain ⟨c0, c1, c2, c3, c4, c5, c6⟩ := hcs j hlt
          have hbbl : bb < w.heap.size := block_lt_of_cell c0
          have hbblW : bb < W.heap.size := by have := HBW.out.size; omega
          replace c0 := cell_later HBW.out c0
          replace c1 := cell_later HBW.out c1
          replace c2 := cell_later HBW.out c2
          replace c3 := cell_later HBW.out c3
          replace c4 := cell_later HBW.out c4
          replace c5 := cell_later HBW.out c5
          replace c6 := cell_later HBW.out c6
          obtain ⟨hm, hq0, hq1⟩ := HOK.out j (by have := HBN.out; omega)
          have hrq := HBK.out.rqs j hlt
          have hbt := HBK.out.bites j hlt
          have HTK : Hid (takenTo l b (j + 1) = addAll (bk b j) (takenTo l b j) (lineOf l (bk b j).rq.queue)) := rfl
          obtain ⟨X, hX⟩ : ∃ X, bk b j = X := ⟨_, rfl⟩
          rw [hX] at c0 c1 c2 c3 c4 c5 c6 hm hq0 hq1 hrq hbt HTK
          have HM := hid hm
          have HRQ := hid hrq
          have HBT := hid hbt
          clear hX hm hrq hbt hcs
          gi_wp2_with fail
          refine ⟨trivial, (up_in Fence.wide _ trivial rfl _ _ _ ⟨_, _, _, rfl⟩).mono ?_⟩
          rintro e w2 ⟨rfl, rfl⟩
          gi_wp2_with fail
          have bJ := Boxed.new ((W.alloc (.cells #[.int .i64 X.id, .int .i64 X.rq.queue, .int .i64 X.rq.fr, .int .i64 X.rq.un, .int .i64 X.rq.kind, .slice X.rq.pa X.rq.pn X.rq.pc, .slice X.ba X.bn X.bc] 60)).alloc (.cells #[.slice (some ⟨qb, qo, none⟩) n cap] 37)) 3 (.int .i64 X.rq.queue)
          have bL := Boxed.new (W.alloc (.cells #[.int .i64 X.id, .int .i64 X.rq.queue, .int .i64 X.rq.fr, .int .i64 X.rq.un, .int .i64 X.rq.kind, .slice X.rq.pa X.rq.pn X.rq.pc, .slice X.ba X.bn X.bc] 60)) 37 (.slice (some ⟨qb, qo, none⟩) n cap)
          rw [World.size_alloc] at bL
          rw [World.size_alloc, World.size_alloc] at bJ
          have bL' := bL.alloc (.cells #[.int .i64 X.rq.queue] 3)
          have hB0 : Below W.heap.size W (((W.alloc (.cells #[.int .i64 X.id, .int .i64 X.rq.queue, .int .i64 X.rq.fr, .int .i64 X.rq.un, .int .i64 X.rq.kind, .slice X.rq.pa X.rq.pn X.rq.pc, .slice X.ba X.bn X.bc] 60)).alloc (.cells #[.slice (some ⟨qb, qo, none⟩) n cap] 37)).alloc (.cells #[.int .i64 X.rq.queue] 3)) := (((Below.refl _ W).alloc (Nat.le_refl _) _).alloc (by simp) _).alloc (by simp; omega) _
          have hBX : Below (W.alloc (.cells #[.int .i64 X.id, .int .i64 X.rq.queue, .int .i64 X.rq.fr, .int .i64 X.rq.un, .int .i64 X.rq.kind, .slice X.rq.pa X.rq.pn X.rq.pc, .slice X.ba X.bn X.bc] 60)).heap.size (W.alloc (.cells #[.int .i64 X.id, .int .i64 X.rq.queue, .int .i64 X.rq.fr, .int .i64 X.rq.un, .int .i64 X.rq.kind, .slice X.rq.pa X.rq.pn X.rq.pc, .slice X.ba X.bn X.bc] 60)) (((W.alloc (.cells #[.int .i64 X.id, .int .i64 X.rq.queue, .int .i64 X.rq.fr, .int .i64 X.rq.un, .int .i64 X.rq.kind, .slice X.rq.pa X.rq.pn X.rq.pc, .slice X.ba X.bn X.bc] 60)).alloc (.cells #[.slice (some ⟨qb, qo, none⟩) n cap] 37)).alloc (.cells #[.int .i64 X.rq.queue] 3)) := ((Below.refl _ _).alloc (Nat.le_refl _) _).alloc (by simp) _
          have hsz : (((W.alloc (.cells #[.int .i64 X.id, .int .i64 X.rq.queue, .int .i64 X.rq.fr, .int .i64 X.rq.un, .int .i64 X.rq.kind, .slice X.rq.pa X.rq.pn X.rq.pc, .slice X.ba X.bn X.bc] 60)).alloc (.cells #[.slice (some ⟨qb, qo, none⟩) n cap] 37)).alloc (.cells #[.int .i64 X.rq.queue] 3)).heap.size = W.heap.size + 3 := by simp
          obtain ⟨W0, hW0⟩ : ∃ W0, ((W.alloc (.cells #[.int .i64 X.id, .int .i64 X.rq.queue, .int .i64 X.rq.fr, .int .i64 X.rq.un, .int .i64 X.rq.kind, .slice X.rq.pa X.rq.pn X.rq.pc, .slice X.ba X.bn X.bc] 60)).alloc (.cells #[.slice (some ⟨qb, qo, none⟩) n cap] 37)).alloc (.cells #[.int .i64 X.rq.queue] 3) = W0 := ⟨_, rfl⟩
          rw [hW0] at hsz hB0 bL' bJ hBX ⊢
          have KB := hid (bk_cells W X)
          have HBX := hid hBX
          clear hW0 bL hBX c0 c1 c2 c3 c4 c5 c6
          have bU0 : Boxed W0 (G + 1) 97 (.slice (some ⟨G, 0, none⟩) n n) := (hB0.block _ (by omega)).trans (HA.out.box bU.out (by omega))
          have tk0 : Tk W0 W0 G n (takenTo l b j) := by
            have h1 := HA.out.later hB0
            exact ⟨rfl, rfl, rfl, Nat.le_refl _, fun _ _ _ => rfl, h1.row⟩
          have cells0 : ∀ i, i < n → W0.cell? ⟨qb, qo + i * 3 + 1, none⟩ = some (.int .i64 (qu l i).parent) := fun i hi =>
            cell_later hB0 (cell_later HBW.out (HC.out i hi).2.1)
          have HCE := hid cells0
          have HTK0 := hid tk0
          have HB0 := hid hB0
          clear cells0 tk0
          refine wpIn_rangeFunc_ownG (F := Fence.wide) rfl (by omega) (gf := 130) (lb := #[.pointer (some ⟨W.heap.size + 1 + 1, 0, none⟩), .pointer (some ⟨W.heap.size + 1, 0, none⟩)]) rfl trivial (enters_of Tryz.func130 (by kernel_rfl) rfl)
            (upQ_stops Fence.wide _ trivial rfl (by omega) (W.heap.size + 1 + 1) (W.heap.size + 1) G qb qo n cap l X.rq.queue HR.out HN.out (by have := HN.out; omega) W0 bJ bL' (by omega) (by omega) HCE.out)
            KeepsL.trans (keepsL_b (by omega)) (Below.refl _ _) (fun _ => rfl)
            (fun pre W' => Tk W0 W' G n (addAll X (takenTo l b j) (pre.map (·.1))))
            (fun _ _ _ => False)
            (Tk.own (Nat.le_refl _) (by omega))
            (fun c s X Y row h _ _ => h)
            HTK0.out
            (fun x => { tmps := #[.slice (some ⟨qb, qo, none⟩) n cap, .slice (some ⟨bb, bo, none⟩) bn bc, undef, undef, .slice none 0 0, .int .i64 0, .int .i64 0, .pointer (some ⟨G + 1, 0, none⟩), u8, undef, .pointer (some ⟨W.heap.size, 0, none⟩), .int .i64 x.1, .slice (some ⟨qb, qo, none⟩) n cap, .slice (some ⟨bb, bo, none⟩) bn bc, .int .i64 0, .int .i64 0, .bool false, undef, .slice (some ⟨qb, qo, none⟩) n cap, .int .i64 n, .slice (some ⟨G, 0, none⟩) n n, .slice (some ⟨G, 0, none⟩) n n, .int .i64 n, .int .i64 n, .bool false, u25, u26, u27, u28, u29, u30, u31, .slice (some ⟨bb, bo, none⟩) bn bc, .int .i64 bn, .int .i64 j, .bool true, .pointer (some ⟨bb, bo + j * 7, none⟩), .agg #[.int .i64 X.id, .int .i64 X.rq.queue, .int .i64 X.rq.fr, .int .i64 X.rq.un, .int .i64 X.rq.kind, .slice X.rq.pa X.rq.pn X.rq.pc, .slice X.ba X.bn X.bc], .slice (some ⟨qb, qo, none⟩) n cap, .pointer (some ⟨W.heap.size, 1, none⟩), .pointer (some ⟨W.heap.size, 1, none⟩), .int .i64 X.rq.queue, .func (.func 130) #[] #[.pointer (some ⟨W.heap.size + 1 + 1, 0, none⟩), .pointer (some ⟨W.heap.size + 1, 0, none⟩)], .int .i64 x.1, undef, undef, undef, undef, undef, undef, undef, undef, undef, u53, undef], defers := [] }) ?assign ?body ?done ?stop
          case assign =>
            intro l x W K hK
            gi_wp2
            exact hK
          case body =>
            rintro lp pre x W' hTk hltp
            obtain ⟨x, hx0, hx1⟩ := x
            obtain ⟨P, rfl⟩ := Int.eq_ofNat_of_zero_le hx0
            have hPn : P < n := by omega
            have hPn' : (P : Int) < n := by omega
            obtain ⟨a1, m1, k1, tc, tf, hr1, hne1⟩ := hTk.at hPn
            have CU := hid (hTk.box bU0 (by omega)).cell
            have TC := hid tc
            have TF := hid tf
            have HR1 := hid hr1
            have hszW' : W0.heap.size ≤ W'.heap.size := hTk.size
            have BC : Hid (∀ Y, Below W'.heap.size W' Y → Y.cell? ⟨W.heap.size, 0, none⟩ = some (.int .i64 X.id) ∧ Y.cell? ⟨W.heap.size, 1, none⟩ = some (.int .i64 X.rq.queue) ∧ Y.cell? ⟨W.heap.size, 2, none⟩ = some (.int .i64 X.rq.fr) ∧ Y.cell? ⟨W.heap.size, 3, none⟩ = some (.int .i64 X.rq.un) ∧ Y.cell? ⟨W.heap.size, 4, none⟩ = some (.int .i64 X.rq.kind) ∧ Y.cell? ⟨W.heap.size, 5, none⟩ = some (.slice X.rq.pa X.rq.pn X.rq.pc) ∧ Y.cell? ⟨W.heap.size, 6, none⟩ = some (.slice X.ba X.bn X.bc)) := fun Y hY => by
              obtain ⟨c0, c1, c2, c3, c4, c5, c6⟩ := KB.out W0 HBX.out
              have e : W'.heap[W.heap.size]? = W0.heap[W.heap.size]? := hTk.block _ (by omega) (by omega)
              exact ⟨cell_later hY ((World.cell?_of_block (w := W0) (a := ⟨W.heap.size, 0, none⟩) e).trans c0), cell_later hY ((World.cell?_of_block (w := W0) (a := ⟨W.heap.size, 1, none⟩) e).trans c1), cell_later hY ((World.cell?_of_block (w := W0) (a := ⟨W.heap.size, 2, none⟩) e).trans c2), cell_later hY ((World.cell?_of_block (w := W0) (a := ⟨W.heap.size, 3, none⟩) e).trans c3), cell_later hY ((World.cell?_of_block (w := W0) (a := ⟨W.heap.size, 4, none⟩) e).trans c4), cell_later hY ((World.cell?_of_block (w := W0) (a := ⟨W.heap.size, 5, none⟩) e).trans c5), cell_later hY ((World.cell?_of_block (w := W0) (a := ⟨W.heap.size, 6, none⟩) e).trans c6)⟩
            have hwW' : Below w.heap.size w W' := (HBW.out.trans (HB0.out.mono (by have := HBW.out.size; omega))).trans (hTk.below (B := w.heap.size) (by omega) (by omega))
            have HTK2 := hid hTk
            obtain ⟨g, hg⟩ : ∃ g, addAll X (takenTo l b j) (pre.map (·.1)) P = g := ⟨_, rfl⟩
            rw [hg] at HR1
            have HGG := hid hg
            have hrqW : RqIn W' X.rq := RqIn.later HRQ.out hwW'
            have hbtW : RunsIn W' X.ba X.bn X.bc X.bs := HBT.out.later hwW'
            have KW := hid fun Y (hY : Below W'.heap.size W' Y) => with_any Y a1 m1 k1 g (HR1.out.later hY) X (RqIn.later hrqW hY) (hbtW.later hY) HM.out
            clear hTk tc tf hr1 hne1 hg hrqW hbtW
            gi_wp2_with fail
            refine wpIn_region_last ((Tryz.f46.body.bind fun c => regOps c 15).getD #[]) (by kernel_rfl) [isV (.slice (some ⟨G, 0, none⟩) n n), isV (.int .i64 P), isV (.slice (some ⟨G, 0, none⟩) n n), isV (.int .i64 P), isV (.pointer (some ⟨G, P, none⟩)), isV (.slice a1 m1 k1), isV (.agg #[.int .i64 X.id, .int .i64 X.rq.queue, .int .i64 X.rq.fr, .int .i64 X.rq.un, .int .i64 X.rq.kind, .slice X.rq.pa X.rq.pn X.rq.pc, .slice X.ba X.bn X.bc]), ⟨fun v Y => ∃ a2 m2 k2, v = .slice a2 m2 k2 ∧ RunsIn Y a2 m2 k2 (withTo g X X.bs.length) ∧ ∀ b off, a2 = some ⟨b, off, none⟩ → W'.heap.size ≤ b, fun _ Y Z ⟨a2, m2, k2, h1, h2, h3⟩ hb => ⟨a2, m2, k2, h1, h2.later hb, h3⟩⟩, isV (.pointer (some ⟨G, P, none⟩)), isV undef] 9 (by kernel_rfl) (by kernel_rfl) (by kernel_rfl) (by kernel_rfl) ?hstep ?hlast
            case hstep =>
              refine AllOps.cons 1 rfl ?_ ?_
              · intro _ T w' hb hl hd
                have h0 : T.getD 7 undef = .pointer (some ⟨G + 1, 0, none⟩) := hl 7 (by kernel_rfl)
                have cU := cell_later hb CU.out
                exact Or.inl ⟨.slice (some ⟨G, 0, none⟩) n n, w', by go_simp, rfl, Below.refl _ _⟩
              refine AllOps.cons 2 rfl ?_ ?_
              · intro _ T w' hb hl hd
                have h0 : T.getD 11 undef = .int .i64 P := hl 11 (by kernel_rfl)
                exact Or.inl ⟨.int .i64 P, w', by go_simp, rfl, Below.refl _ _⟩
              refine AllOps.cons 3 rfl ?_ ?_
              · intro _ T w' hb hl hd
                have h0 : T.getD 7 undef = .pointer (some ⟨G + 1, 0, none⟩) := hl 7 (by kernel_rfl)
                have cU := cell_later hb CU.out
                exact Or.inl ⟨.slice (some ⟨G, 0, none⟩) n n, w', by go_simp, rfl, Below.refl _ _⟩
              refine AllOps.cons 4 rfl ?_ ?_
              · intro _ T w' hb hl hd
                have h0 : T.getD 11 undef = .int .i64 P := hl 11 (by kernel_rfl)
                exact Or.inl ⟨.int .i64 P, w', by go_simp, rfl, Below.refl _ _⟩
              refine AllOps.cons 5 rfl ?_ ?_
              · intro _ T w' hb hl hd
                have h0 : T.getD 46 undef = .slice (some ⟨G, 0, none⟩) n n := hd 2 46 (by kernel_rfl)
                have h1 : T.getD 47 undef = .int .i64 P := hd 3 47 (by kernel_rfl)
                exact Or.inl ⟨.pointer (some ⟨G, P, none⟩), w', by go_simp, rfl, Below.refl _ _⟩
              refine AllOps.cons 6 rfl ?_ ?_
              · intro _ T w' hb hl hd
                have h0 : T.getD 48 undef = .pointer (some ⟨G, P, none⟩) := hd 4 48 (by kernel_rfl)
                have tc := cell_later hb TC.out
                exact Or.inl ⟨.slice a1 m1 k1, w', by go_simp, rfl, Below.refl _ _⟩
              refine AllOps.cons 7 rfl ?_ ?_
              · intro _ T w' hb hl hd
                have h0 : T.getD 10 undef = .pointer (some ⟨W.heap.size, 0, none⟩) := hl 10 (by kernel_rfl)
                obtain ⟨c0, c1, c2, c3, c4, c5, c6⟩ := BC.out w' hb
                exact Or.inl ⟨.agg #[.int .i64 X.id, .int .i64 X.rq.queue, .int .i64 X.rq.fr, .int .i64 X.rq.un, .int .i64 X.rq.kind, .slice X.rq.pa X.rq.pn X.rq.pc, .slice X.ba X.bn X.bc], w', by go_simp, rfl, Below.refl _ _⟩
              refine AllOps.cons 8 rfl ?_ ?_
              · intro _ T w' hb hl hd
                have h0 : T.getD 49 undef = .slice a1 m1 k1 := hd 5 49 (by kernel_rfl)
                have h1 : T.getD 50 undef = .agg #[.int .i64 X.id, .int .i64 X.rq.queue, .int .i64 X.rq.fr, .int .i64 X.rq.un, .int .i64 X.rq.kind, .slice X.rq.pa X.rq.pn X.rq.pc, .slice X.ba X.bn X.bc] := hd 6 50 (by kernel_rfl)
                refine Or.inr ⟨82, #[.slice a1 m1 k1, .agg #[.int .i64 X.id, .int .i64 X.rq.queue, .int .i64 X.rq.fr, .int .i64 X.rq.un, .int .i64 X.rq.kind, .slice X.rq.pa X.rq.pn X.rq.pc, .slice X.ba X.bn X.bc]], by go_simp, ?_⟩
                refine (KW.out w' hb).mono ?_
                rintro e w'' ⟨a2, m2, k2, rfl, hr, hbb, hnw⟩
                exact ⟨_, rfl, ⟨a2, m2, k2, rfl, hr, fun b off e => by have := hnw b off e; have := hb.size; omega⟩, hbb⟩
              refine AllOps.cons 9 rfl ?_ ?_
              · intro _ T w' hb hl hd
                have h0 : T.getD 44 undef = .slice (some ⟨G, 0, none⟩) n n := hd 0 44 (by kernel_rfl)
                have h1 : T.getD 45 undef = .int .i64 P := hd 1 45 (by kernel_rfl)
                exact Or.inl ⟨.pointer (some ⟨G, P, none⟩), w', by go_simp, rfl, Below.refl _ _⟩
              exact ⟨fun h => absurd rfl h, trivial⟩
            case hlast =>
              intro o ho T w' hb hs hl hd
              have hoo : ((Tryz.f46.body.bind fun c => regOps c 15).getD #[])[9]? = some { dst := none, op := Op.store 25 (Operand.tmp 52) (Operand.tmp 51), type := 0, pos := "load.go:26", after := #[{ on := 8, ground := Ground.data }, { on := 7, ground := Ground.data }, { on := 7, ground := Ground.chain }, { on := 0, ground := Ground.phase }, { on := 1, ground := Ground.phase }, { on := 2, ground := Ground.phase }, { on := 3, ground := Ground.phase }, { on := 4, ground := Ground.phase }, { on := 5, ground := Ground.phase }, { on := 6, ground := Ground.phase }, { on := 7, ground := Ground.phase }], guard := none } := by kernel_rfl
              rw [hoo] at ho
              cases ho
              clear hoo
              have h0 : T.getD 52 undef = .pointer (some ⟨G, P, none⟩) := hd 8 52 (by decide) (by kernel_rfl)
              obtain ⟨a2, m2, k2, h1, hr2, hn2⟩ := hd 7 51 (by decide) (by kernel_rfl)
              have tc := cell_later hb TC.out
              have tf := (World.frozen?_of_block (w := W') (a := ⟨G, P, none⟩) (hb.block G (by omega))).trans TF.out
              refine ⟨w'.setCell ⟨G, P, none⟩ (.slice a2 m2 k2), by go_simp, ?_⟩
              refine ⟨?_, ?_, ?_⟩
              · exact (KeepsOthers.trans (⟨hb.size, fun k o hk _ => (hb.block k (Array.getElem?_eq_some_iff.1 hk).1).trans hk⟩ : KeepsOthers W' w') (KeepsOthers.setCell _ _ _)).from _
              · exact ⟨(show Below G W' w' from hb.mono (by omega)).setCell (Nat.le_refl _) _, fun v hv => (Below.heap_setCell _ _ _ _ (by simp only; omega)).trans ((hb.block _ hv.lt).trans hv)⟩
              · show Tk W0 _ G n (addAll X (takenTo l b j) (List.map (fun x : QN n => x.1) (pre ++ [_])))
                rw [List.map_append, List.map_cons, List.map_nil, addAll_more]
                have := (HTK2.out.later hb).hit P hr2 (fun b off e => by have := hn2 b off e; omega)
                exact this.congr fun q hq => by
                  show (if q = P then withTo g X X.bs.length else _) = _
                  rw [Int.toNat_natCast, HGG.out]
          case done =>
            rintro D ys W' hD hys hTk hK
            rw [hys] at hTk
            have HTK3 : Hid (Tk W0 W' G n (takenTo l b (j + 1))) := by show Tk W0 W' G n (takenTo l b (j + 1)); rw [HTK.out]; exact hTk
            clear hTk hys
            gi_wp2
            rw [← HDS.out]
            exact ⟨of_next hlt HA.out HB0.out HTK3.out hsW hsW1 HMS.out HND.out hD hK, by simp [OMu, intOf]; omega⟩
          case stop =>
            rintro D c pre W' hD hpre h hK
            cases h
        · obtain rfl : bn = j := by omega
          have hbx := (HA.out.box bU.out (by omega)).cell
          gi_wp2
          show LeavesInM _ _ _ _ _ _ dm _ _
          rw [← HDS.out]
          refine leaves_marksC (G + 2) ds W hsW HND.out (fun D hD => ⟨(HMS.out D hD).1, (HMS.out D hD).2.2⟩) (fun W' hb hcl => ?_)
          have htk' := HA.out.marks hb hcl (by omega)
          refine ⟨_, results_tmp2 rfl _ _ _, G, rfl, hsz1, fun q hq => ?_, ?_⟩
          · obtain ⟨a', m', k', h1, h2, h3, h4⟩ := htk'.at hq
            exact ⟨a', m', k', h1, by rw [← HBN.out]; exact h3⟩
          · exact HBW.out.trans (hb.mono (by omega))
end Go.Proofs.YtckpdfkobdgjeaaGreatDoor
namespace Go.Proofs.YtckpdfkobdgjeaaGreatDoor
open Go.RowKit Go.Shelf
attribute [local go_sem] Oper.semAt_some
def TakenIn (w : World) (G n : Nat) (T : Nat → RunL) : Prop := ∀ q, q < n → ∃ a m c, w.cell? ⟨G, q, none⟩ = some (.slice a m c) ∧ RunsIn w a m c (T q)
theorem TakenIn.later {w w' : World} {G n : Nat} {T : Nat → RunL} (h : TakenIn w G n T) (hb : Below w.heap.size w w') : TakenIn w' G n T := fun q hq => by
  obtain ⟨a, m, c, h1, h2⟩ := h q hq
  exact ⟨a, m, c, cell_later hb h1, h2.later hb⟩
def GivesT (w w' : World) (e : Ending) (n : Nat) (T : Nat → RunL) (er : Int) : Prop := ∃ a m c, e = .returned (.tuple #[.slice a m c, .int .i64 er]) ∧ (er = 0 → ∃ G, a = some ⟨G, 0, none⟩ ∧ n = m ∧ n = c ∧ TakenIn w' G n T) ∧ (er ≠ 0 → a = none ∧ m = 0 ∧ c = 0) ∧ Below w.heap.size w w'
set_option maxRecDepth 100000 in
theorem Of_any (w : World) (a : Option Addr) (n cap : Nat) (l : QL) (hl : QsIn w a n cap l) (ba : Option Addr) (bn bc : Nat) (b : BL) (hb : BksIn w ba bn bc b) :
    Calls Tryz.prog 46 #[.slice a n cap, .slice ba bn bc] w fun e w' => GivesT w w' e n (takenTo l b b.length) (chkL l b) := by
  by_cases he : chkL l b = 0
  · refine (Of_ok w a n cap l hl ba bn bc b hb he).mono ?_
    rintro e w' ⟨G, rfl, _, ht, hbel⟩
    rw [he]
    exact ⟨_, _, _, rfl, fun _ => ⟨G, rfl, rfl, rfl, ht⟩, fun h => absurd rfl h, hbel⟩
  · have hne : (chkL l b != 0) = true := by simp [he]
    have HK := hid (checkL_any w a n cap l hl ba bn bc b hb)
    have HE := hid he
    clear hl hb he
    refine (callsIn_wide (n := 4)).1 ?_
    refine callsIn_of_wp_marks Tryz.func46 rfl trivial ?_ rfl
    simp only [Tryz.ntmps46, List.size_toArray, List.length_cons, List.length_nil, Nat.reduceAdd, Nat.reduceSub, Array.replicate_succ, Array.replicate_zero, List.push_toArray, List.append_toArray, List.nil_append, List.cons_append]
    gi_wp2_with fail
    refine ⟨trivial, (callsIn_wide.2 HK.out).mono ?_⟩
    rintro e w1 ⟨rfl, B1⟩
    have HB1 := hid B1
    clear B1
    gi_wp2
    exact ⟨_, results_tmp2 rfl _ _ _, none, 0, 0, rfl, fun h => absurd h HE.out, fun _ => ⟨rfl, rfl, rfl⟩, HB1.out⟩
def shortR (r t : RunL) (fm : Int) : Bool := if fm = 48 then false else decide ((leastR (joinR (fun x y => x - y) r t).1 fm 48).1 < 0)
theorem short_any (w : World) (a1 a2 : Option Addr) (n1 c1 n2 c2 : Nat) (r t : RunL) (h1 : RunsIn w a1 n1 c1 r) (h2 : RunsIn w a2 n2 c2 t) (fm : Int) :
    Calls Tryz.prog 85 #[.slice a1 n1 c1, .slice a2 n2 c2, .int .i64 fm] w fun e w' => e = .returned (.bool (shortR r t fm)) ∧ Below w.heap.size w w' := by
  by_cases hf : fm = 48
  · subst hf
    go_enter Tryz.func85, Tryz.ntmps85
    go_wp2
    go_ret
    exact ⟨rfl, Below.refl _ _⟩
  · have hne : (fm == 48) = false := by simp [hf]
    have hsr : shortR r t fm = decide ((leastR (joinR (fun x y => x - y) r t).1 fm 48).1 < 0) := if_neg hf
    rw [hsr]
    have K1 := hid (Minus_any w a1 a2 n1 n2 c1 c2 r t h1 h2)
    obtain ⟨J, hJ⟩ : ∃ J, joinR (fun x y => x - y) r t = J := ⟨_, rfl⟩
    rw [hJ] at K1
    rw [hJ]
    obtain ⟨x, hx⟩ : ∃ x, leastR J.1 fm 48 = x := ⟨_, rfl⟩
    rw [hx]
    have HX := hid hx
    clear hsr hJ hf h1 h2 hx
    go_enter Tryz.func85, Tryz.ntmps85
    go_wp2_with fail
    refine K1.out.mono ?_
    rintro e w1 ⟨a, m, c, rfl, hr, hb⟩
    have HB := hid hb
    go_wp2_with fail
    have K2 := Least_any w1 a m c J.1 fm 48 hr
    rw [HX.out] at K2
    refine K2.mono ?_
    clear K2
    rintro e w2 ⟨rfl, hb2⟩
    have HB2 := hid (below_from HB.out hb2)
    clear hr hb hb2
    go_wp2
    go_ret
    exact ⟨rfl, HB2.out⟩
def fitsTo (l : QL) (T : Nat → RunL) (fm : Int) : Nat → Bool
  | 0 => true
  | k + 1 => fitsTo l T fm k && !shortR (qu l k).runs (T k) fm
theorem fitsTo_no {l : QL} {T : Nat → RunL} {fm : Int} {k : Nat} (h : shortR (qu l k).runs (T k) fm = true) : ∀ n, k < n → fitsTo l T fm n = false
  | 0, hn => by omega
  | n + 1, hn => by
    by_cases e : k = n
    · subst e; simp [fitsTo, h]
    · rw [fitsTo, fitsTo_no h n (by omega)]; rfl
def fitsE (l : QL) (b : BL) (fm : Int) : Int := if chkL l b = 0 then (if fm < 0 ∨ 48 < fm then 3 else 0) else chkL l b
def fitsR (l : QL) (b : BL) (fm : Int) : Bool := if fitsE l b fm = 0 then fitsTo l (takenTo l b b.length) fm l.length else false
set_option maxRecDepth 100000 in
set_option maxHeartbeats 1000000 in
theorem Fits_any (w : World) (a : Option Addr) (n cap : Nat) (l : QL) (hl : QsIn w a n cap l) (ba : Option Addr) (bn bc : Nat) (b : BL) (hb : BksIn w ba bn bc b) (fm : Int) :
    Calls Tryz.prog 51 #[.slice a n cap, .slice ba bn bc, .int .i64 fm] w fun e w' => e = .returned (.tuple #[.bool (fitsR l b fm), .int .i64 (fitsE l b fm)]) ∧ Below w.heap.size w w' := by
  have HK := hid (Of_any w a n cap l hl ba bn bc b hb)
  by_cases he : chkL l b = 0
  · rw [he] at HK
    have hE : fitsE l b fm = if fm < 0 ∨ 48 < fm then 3 else 0 := if_pos he
    by_cases hr : fm < 0 ∨ 48 < fm
    · rw [if_pos hr] at hE
      have hR : fitsR l b fm = false := by rw [fitsR, hE]; rfl
      rw [hE, hR]
      clear hE hR he hl hb
      by_cases h0 : fm < 0
      · clear hr
        go_enter Tryz.func51, Tryz.ntmps51
        go_wp2_with fail
        refine HK.out.mono ?_
        rintro e w1 ⟨a1, m1, k1, rfl, ht, _, hb⟩
        have HB := hid hb
        clear hb ht
        go_wp2
        go_ret2
        exact ⟨rfl, HB.out⟩
      · have h48 : (48 : Int) < fm := by omega
        clear hr
        go_enter Tryz.func51, Tryz.ntmps51
        go_wp2_with fail
        refine HK.out.mono ?_
        rintro e w1 ⟨a1, m1, k1, rfl, ht, _, hb⟩
        have HB := hid hb
        clear hb ht
        go_wp2
        go_ret2
        exact ⟨rfl, HB.out⟩
    · rw [if_neg hr] at hE
      have hR : fitsR l b fm = fitsTo l (takenTo l b b.length) fm l.length := by rw [fitsR, hE]; rfl
      rw [hE, hR]
      have h0 : ¬ fm < 0 := by omega
      have h48 : ¬ (48 : Int) < fm := by omega
      have HN := hid hl.len
      have hle := hl.le
      have hcb := hl.capb
      obtain ⟨T, hT⟩ : ∃ T, takenTo l b b.length = T := ⟨_, rfl⟩
      rw [hT] at HK
      rw [hT]
      rw [← HN.out]
      obtain ⟨A, hA⟩ : ∃ A, fitsTo l T fm n = A := ⟨_, rfl⟩
      rw [hA]
      have HA := hid hA
      have hnp : 0 < n := by have := (right_of (no_error he).1).pos; have := hl.len; omega
      obtain ⟨qb, qo, rfl, hcs⟩ := hl.cells hnp
      have HC := hid hcs
      have HL := hid hl
      clear hE hR he hl hb hr hT hA hcs
      go_enter Tryz.func51, Tryz.ntmps51
      go_wp2_with fail
      refine HK.out.mono ?_
      rintro e w1 ⟨a1, m1, k1, rfl, ht, _, hb⟩
      obtain ⟨G, rfl, rfl, rfl, htk⟩ := ht rfl
      have HB := hid hb
      have HT := hid htk
      clear hb ht htk
      go_wp2_with fail
      go_loopw [10, 28] (fun _ p wr => ∃ k : Nat, p = .int .i64 k ∧ k ≤ n ∧ fitsTo l T fm k = true ∧ Below w1.heap.size w1 wr) (fun _ p _ => n - (intOf p).toNat)
      case atStart => exact ⟨0, rfl, by omega, rfl, Below.refl _ _⟩
      case round =>
        obtain ⟨k, rfl, hk, hfit, hbel⟩ := hrel
        have HFT := hid hfit
        have HBL := hid hbel
        clear hfit hbel
        by_cases hlt : k < n
        · have hlt' : (k : Int) < n := by omega
          have hbw := below_from HB.out HBL.out
          obtain ⟨ta, tn, tc, ht1, ht2⟩ := HT.out.later HBL.out k hlt
          have CT := hid ht1
          have CQ := hid (cell_later hbw (HC.out k hlt).2.2)
          have hcr := (HL.out.caps k hlt).later hbw
          obtain ⟨S, hS⟩ : ∃ S, shortR (qu l k).runs (T k) fm = S := ⟨_, rfl⟩
          have KS := hid fun Y (hY : Below wr.heap.size wr Y) => short_any Y (qu l k).ca ta (qu l k).cn (qu l k).cc tn tc (qu l k).runs (T k) (hcr.later hY) (ht2.later hY) fm
          rw [hS] at KS
          have HS := hid hS
          obtain ⟨ca, hca⟩ : ∃ ca, (qu l k).ca = ca := ⟨_, rfl⟩
          obtain ⟨cn, hcn⟩ : ∃ cn, (qu l k).cn = cn := ⟨_, rfl⟩
          obtain ⟨cc, hcc⟩ : ∃ cc, (qu l k).cc = cc := ⟨_, rfl⟩
          rw [hca, hcn, hcc] at CQ KS
          clear ht1 ht2 hcr hS hca hcn hcc hbw
          go_wp2_with fail
          go_cut [41] (fun v wx => v = .bool S ∧ Below wr.heap.size wr wx)
          case first =>
            refine wp_region_des ((Tryz.f51.body.bind fun c => regOps c 9).getD #[]) (by kernel_rfl) [isV (.slice (some ⟨qb, qo, none⟩) n cap), isV (.int .i64 k), isV (.pointer (some ⟨qb, qo + k * 3, none⟩)), isV (.pointer (some ⟨qb, qo + k * 3 + 2, none⟩)), isV (.slice ca cn cc), isV (.slice (some ⟨G, 0, none⟩) n n), isV (.int .i64 k), isV (.pointer (some ⟨G, k, none⟩)), isV (.slice ta tn tc), isV (.int .i64 fm), isV (.bool S)] [] (by kernel_rfl) (by kernel_rfl) (by kernel_rfl) ?hg ?hstep ?hfin
            case hg =>
              intro g hg v w h
              cases hg
            case hstep =>
              refine AllOps.cons 1 rfl ?_ ?_
              · intro T w' hb hl hd
                have h0 : T.getD 0 undef = .slice (some ⟨qb, qo, none⟩) n cap := hl 0 (by kernel_rfl)
                exact Or.inl ⟨.slice (some ⟨qb, qo, none⟩) n cap, w', by go_simp, rfl, Below.refl _ _⟩
              refine AllOps.cons 2 rfl ?_ ?_
              · intro T w' hb hl hd
                have h0 : T.getD 10 undef = .int .i64 k := hl 10 (by kernel_rfl)
                exact Or.inl ⟨.int .i64 k, w', by go_simp, rfl, Below.refl _ _⟩
              refine AllOps.cons 3 rfl ?_ ?_
              · intro T w' hb hl hd
                have h0 : T.getD 31 undef = .slice (some ⟨qb, qo, none⟩) n cap := hd 0 31 (by kernel_rfl)
                have h1 : T.getD 32 undef = .int .i64 k := hd 1 32 (by kernel_rfl)
                exact Or.inl ⟨.pointer (some ⟨qb, qo + k * 3, none⟩), w', by go_simp, rfl, Below.refl _ _⟩
              refine AllOps.cons 4 rfl ?_ ?_
              · intro T w' hb hl hd
                have h0 : T.getD 33 undef = .pointer (some ⟨qb, qo + k * 3, none⟩) := hd 2 33 (by kernel_rfl)
                exact Or.inl ⟨.pointer (some ⟨qb, qo + k * 3 + 2, none⟩), w', by go_simp, rfl, Below.refl _ _⟩
              refine AllOps.cons 5 rfl ?_ ?_
              · intro T w' hb hl hd
                have h0 : T.getD 34 undef = .pointer (some ⟨qb, qo + k * 3 + 2, none⟩) := hd 3 34 (by kernel_rfl)
                have cq := cell_later hb CQ.out
                exact Or.inl ⟨.slice ca cn cc, w', by go_simp, rfl, Below.refl _ _⟩
              refine AllOps.cons 6 rfl ?_ ?_
              · intro T w' hb hl hd
                have h0 : T.getD 8 undef = .slice (some ⟨G, 0, none⟩) n n := hl 8 (by kernel_rfl)
                exact Or.inl ⟨.slice (some ⟨G, 0, none⟩) n n, w', by go_simp, rfl, Below.refl _ _⟩
              refine AllOps.cons 7 rfl ?_ ?_
              · intro T w' hb hl hd
                have h0 : T.getD 10 undef = .int .i64 k := hl 10 (by kernel_rfl)
                exact Or.inl ⟨.int .i64 k, w', by go_simp, rfl, Below.refl _ _⟩
              refine AllOps.cons 8 rfl ?_ ?_
              · intro T w' hb hl hd
                have h0 : T.getD 36 undef = .slice (some ⟨G, 0, none⟩) n n := hd 5 36 (by kernel_rfl)
                have h1 : T.getD 37 undef = .int .i64 k := hd 6 37 (by kernel_rfl)
                exact Or.inl ⟨.pointer (some ⟨G, k, none⟩), w', by go_simp, rfl, Below.refl _ _⟩
              refine AllOps.cons 9 rfl ?_ ?_
              · intro T w' hb hl hd
                have h0 : T.getD 38 undef = .pointer (some ⟨G, k, none⟩) := hd 7 38 (by kernel_rfl)
                have ct := cell_later hb CT.out
                exact Or.inl ⟨.slice ta tn tc, w', by go_simp, rfl, Below.refl _ _⟩
              refine AllOps.cons 10 rfl ?_ ?_
              · intro T w' hb hl hd
                have h0 : T.getD 2 undef = .int .i64 fm := hl 2 (by kernel_rfl)
                exact Or.inl ⟨.int .i64 fm, w', by go_simp, rfl, Below.refl _ _⟩
              refine AllOps.cons 11 rfl ?_ ?_
              · intro T w' hb hl hd
                have h0 : T.getD 35 undef = .slice ca cn cc := hd 4 35 (by kernel_rfl)
                have h1 : T.getD 39 undef = .slice ta tn tc := hd 8 39 (by kernel_rfl)
                have h2 : T.getD 40 undef = .int .i64 fm := hd 9 40 (by kernel_rfl)
                refine Or.inr ⟨85, #[.slice ca cn cc, .slice ta tn tc, .int .i64 fm], by go_simp, ?_⟩
                refine (KS.out w' hb).mono ?_
                rintro e w'' ⟨rfl, hbb⟩
                exact ⟨_, rfl, rfl, hbb⟩
              exact trivial
            case hfin =>
              intro T w' hb hs hl hd
              have e41 : T.getD 41 undef = .bool S := hd 10 41 (by kernel_rfl)
              rw [lit_then [true, true, true, true, true, true, true, true, true, true, true, true, true, true, true, true, true, true, true, true, true, true, true, true, true, true, true, true, true, true, true, false, false, false, false, false, false, false, false, false, false, false, true] (by kernel_rfl) hs hl]
              obtain ⟨us, hus⟩ : ∃ us : Nat → Value, (fun d => T.getD d undef) = us := ⟨_, rfl⟩
              rw [hus]
              have f41 : us 41 = .bool S := by rw [← hus]; exact e41
              apply_assumption
              simp only [fillL]
              go_meet
              exact ⟨f41, hb⟩
          case rest =>
            obtain ⟨rfl, hb3⟩ := hcut
            have HB3 := hid (below_from HBL.out hb3)
            clear hb3
            cases S with
            | true =>
              have HAA : Hid (false = A) := by show false = A; rw [← HA.out, fitsTo_no HS.out n hlt]
              go_wp2
              go_ret2
              rw [← HAA.out]
              exact ⟨rfl, below_from HB.out HB3.out⟩
            | false =>
              go_wp2
              go_roundw
              case rel => exact ⟨k + 1, by go_num, by omega, by rw [fitsTo, HFT.out, HS.out]; rfl, HB3.out⟩
              case measure => simp [intOf]; omega
        · obtain rfl : k = n := by omega
          have HAA : Hid (true = A) := by show true = A; rw [← HA.out, HFT.out]
          go_wp2
          go_ret2
          rw [← HAA.out]
          exact ⟨rfl, below_from HB.out HBL.out⟩
  · have hE : fitsE l b fm = chkL l b := if_neg he
    have hR : fitsR l b fm = false := by rw [fitsR, hE, if_neg he]
    rw [hE, hR]
    obtain ⟨er, her⟩ : ∃ er, chkL l b = er := ⟨_, rfl⟩
    rw [her] at HK he
    rw [her]
    have hne : (er != 0) = true := by simp [he]
    clear hE hR hl hb her he
    go_enter Tryz.func51, Tryz.ntmps51
    go_wp2_with fail
    refine HK.out.mono ?_
    rintro e w1 ⟨a1, m1, k1, rfl, ht, _, hb⟩
    have HB := hid hb
    clear hb ht
    go_wp2
    go_ret2
    exact ⟨rfl, HB.out⟩
end Go.Proofs.YtckpdfkobdgjeaaGreatDoor
namespace Go.Proofs.YtckpdfkobdgjeaaGreatDoor
theorem capTo_iff {l : RunL} : ∀ {n : Nat}, capTo l n = true → ∀ k, k < n → 0 ≤ rN l k ∧ rN l k ≤ 50
  | 0, _, k, hk => by omega
  | n + 1, h, k, hk => by
    rw [capTo, Bool.and_eq_true] at h
    by_cases e : k = n
    · subst e; exact of_decide_eq_true h.2
    · exact capTo_iff h.1 k (by omega)
theorem cap_val {l : QL} (h : chkT l = 0) {p : Nat} (hp : p < l.length) : Fine (qu l p).runs ∧ ∀ t : Nat, 0 ≤ vals (qu l p).runs t ∧ vals (qu l p).runs t ≤ 50 := by
  have hc : capsOk l = true := by
    unfold chkT at h
    revert h
    repeat' split
    all_goals simp_all
  have h1 := allQ_iff.1 hc p hp
  simp only [capFine, Bool.and_eq_true] at h1
  have hF := fine_iff.1 h1.1
  refine ⟨hF, fun t => ?_⟩
  obtain ⟨j, hj⟩ := reached_ex hF.rises (t := (t : Int)) (by omega)
  have := capTo_iff h1.2 j hj.1
  rw [show vals (qu l p).runs t = valAt (qu l p).runs t from rfl, ← hj.val hF.rises]
  exact this
theorem join_ok {jn : Int → Int → Int} {f g : RunL} (hf : Fine f) (hg : Fine g) (h : ∀ t, t < 48 → -1048576 ≤ jn (vals f t) (vals g t) ∧ jn (vals f t) (vals g t) ≤ 1048576) : Fine (joinR jn f g).1 ∧ (joinR jn f g).2 = 0 ∧ ∀ t, t < 48 → vals (joinR jn f g).1 t = jn (vals f t) (vals g t) := by
  have ha : allTo (jv jn f g) 48 = true := by
    rw [allTo_iff]
    intro i hi
    rw [bdd_iff]
    exact h i hi
  have he : joinR jn f g = (foldTo (jv jn f g) 48, 0) := by rw [joinR, if_pos (by rw [fine_iff.2 hf, fine_iff.2 hg]; rfl), tell, if_pos ha]
  rw [he]
  exact ⟨foldTo_fine _ 48 (by omega) (by omega) ha, rfl, fun t ht => foldTo_val _ ha t ht⟩
theorem fine_bd {f : RunL} (h : Fine f) (t : Nat) : -1048576 ≤ vals f t ∧ vals f t ≤ 1048576 := bdd_iff.1 (valAt_bdd h (t : Int) (by omega))
def oneV (l : QL) (q t : Nat) (x : Bk) : Int := if (q : Int) ∈ lineOf l x.rq.queue then bookTo x t x.bs.length else 0
theorem use_sum (l : QL) (b : BL) (q t : Nat) : ∀ j, j ≤ b.length → useTo l b q t j = ((b.take j).map (oneV l q t)).sum
  | 0, _ => by simp [useTo]
  | j + 1, hj => by
    have hlt : j < b.length := by omega
    have e : bk b j = b[j] := by simp [bk, List.getD, hlt]
    rw [useTo, use_sum l b q t j (by omega), List.take_succ_eq_append_getElem hlt, List.map_append, List.sum_append, e]
    simp [oneV]
theorem use_all (l : QL) (b : BL) (q t : Nat) : useTo l b q t b.length = (b.map (oneV l q t)).sum := by
  rw [use_sum l b q t b.length (Nat.le_refl _), List.take_length]
theorem bk_get {b : BL} {i : Nat} (h : i < b.length) : bk b i = b[i] := by simp [bk, List.getD, h]
theorem bk_mem {b : BL} {i : Nat} (h : i < b.length) : bk b i ∈ b := by rw [bk_get h]; exact List.getElem_mem h
theorem mem_bk {b : BL} {x : Bk} (h : x ∈ b) : ∃ i, i < b.length ∧ bk b i = x := by
  obtain ⟨i, hi, e⟩ := List.getElem_of_mem h
  exact ⟨i, hi, by rw [bk_get hi, e]⟩
theorem clean_sub {l : QL} {b c : BL} (h : Clean l b) (hc : c.length ≤ 12) (hs : ∀ x ∈ c, x ∈ b) : Clean l c :=
  ⟨h.tree, hc, fun i hi => by
    obtain ⟨j, hj, e⟩ := mem_bk (hs _ (bk_mem hi))
    rw [← e]
    exact h.each j hj⟩
theorem clean_at {l : QL} {b : BL} (h : Clean l b) {x : Bk} (hx : x ∈ b) : meets x.rq x.bs = true ∧ 0 ≤ x.rq.queue ∧ x.rq.queue < l.length := by
  obtain ⟨i, hi, rfl⟩ := mem_bk hx
  exact no_error_at h.tree (h.each i hi)
theorem oneV_bd {l : QL} {x : Bk} (h : meets x.rq x.bs = true) (q t : Nat) : 0 ≤ oneV l q t x ∧ oneV l q t x ≤ 150 := by
  have := bookTo_bd h t x.bs.length (Nat.le_refl _)
  have := meets_few h
  unfold oneV
  split <;> omega
theorem parts_of {b : BL} {i : Nat} (h : i < b.length) : b = b.take i ++ bk b i :: b.drop (i + 1) := by
  rw [bk_get h, List.getElem_cons_drop, List.take_append_drop]
theorem sum_parts (l : QL) (q t : Nat) {b : BL} {i : Nat} (h : i < b.length) : (b.map (oneV l q t)).sum = oneV l q t (bk b i) + ((b.take i ++ b.drop (i + 1)).map (oneV l q t)).sum := by
  conv => lhs; rw [parts_of h]
  simp only [List.map_append, List.map_cons, List.sum_append, List.sum_cons]
  omega
theorem short_iff {l : QL} {b : BL} (h : Clean l b) {q : Nat} (hq : q < l.length) {fm : Int} (h0 : 0 ≤ fm) (h1 : fm ≤ 48) :
    shortR (qu l q).runs (takenTo l b b.length q) fm = false ↔ ∀ t : Nat, fm ≤ t → t < 48 → useTo l b q t b.length ≤ vals (qu l q).runs t := by
  obtain ⟨c1, c2⟩ := cap_val h.tree hq
  obtain ⟨t1, t2⟩ := taken_val h b.length (Nat.le_refl _) q
  have hfew := h.few
  obtain ⟨l1, _, l3⟩ := join_ok (jn := fun x y => x - y) c1 t1 (fun t ht => by have := c2 t; have := t2 t ht; omega)
  unfold shortR
  by_cases e : fm = 48
  · rw [if_pos e]
    exact ⟨fun _ t h2 h3 => by omega, fun _ => rfl⟩
  · rw [if_neg e]
    obtain ⟨g, hg⟩ : ∃ g, (joinR (fun x y => x - y) (qu l q).runs (takenTo l b b.length q)).1 = g := ⟨_, rfl⟩
    rw [hg] at l1 l3 ⊢
    have hl : leastR g fm 48 = (lowTo (vals g) fm.toNat (48 - fm.toNat), 0) := by
      unfold leastR
      rw [if_pos (fine_iff.2 l1), if_pos (by simp [spn]; omega)]
      rfl
    rw [hl]
    have hlow := lowTo_low (vals g) fm.toNat (48 - fm.toNat) (by omega)
    rw [show fm.toNat + (48 - fm.toNat) = 48 by omega] at hlow
    obtain ⟨a1, s, a2, a3, a4⟩ := hlow
    rw [decide_eq_false_iff_not]
    constructor
    · intro hn t h2 h3
      have := a1 t (by omega) h3
      rw [l3 t h3, (t2 t h3).1] at this
      simp only at hn
      omega
    · intro hall hn
      simp only at hn
      have := hall s (by omega) a3
      rw [a4, l3 s a3, (t2 s a3).1] at hn
      omega
theorem fitsTo_iff {l : QL} {T : Nat → RunL} {fm : Int} : ∀ {n : Nat}, fitsTo l T fm n = true ↔ ∀ q, q < n → shortR (qu l q).runs (T q) fm = false
  | 0 => by simp [fitsTo]
  | n + 1 => by
    simp only [fitsTo, Bool.and_eq_true, fitsTo_iff (n := n), Bool.not_eq_true']
    constructor
    · rintro ⟨h1, h2⟩ q hq
      by_cases e : q = n
      · subst e; exact h2
      · exact h1 q (by omega)
    · intro h
      exact ⟨fun q hq => h q (by omega), h n (by omega)⟩
theorem fitsE_ok {l : QL} {b : BL} (h : Clean l b) {fm : Int} (h0 : 0 ≤ fm) (h1 : fm ≤ 48) : fitsE l b fm = 0 := by
  unfold fitsE
  rw [if_pos (chkL_clean h), if_neg (by omega)]
theorem fits_iff {l : QL} {b : BL} (h : Clean l b) {fm : Int} (h0 : 0 ≤ fm) (h1 : fm ≤ 48) :
    fitsR l b fm = true ↔ ∀ q : Nat, q < l.length → ∀ t : Nat, fm ≤ t → t < 48 → useTo l b q t b.length ≤ vals (qu l q).runs t := by
  unfold fitsR
  rw [if_pos (fitsE_ok h h0 h1), fitsTo_iff]
  constructor
  · intro hh q hq
    exact (short_iff h hq h0 h1).1 (hh q hq)
  · intro hh q hq
    exact (short_iff h hq h0 h1).2 (hh q hq)
end Go.Proofs.YtckpdfkobdgjeaaGreatDoor
