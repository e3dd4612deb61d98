/- Books in memory; contracts of load.checkBook, of the library's ContainsFunc on books, and of load.check. -/
import Derived.Test.YtcgchicdmgllaadReqE
import Derived.Test.YtcgchicdmgllaadAny
namespace Go.Proofs.Ytcgchicdmgllaad
open Go.RowKit

/-- a book: its Id, its request, and its bites as a slice -/
structure Bk where
  id : Int
  rq : Rq
  ba : Option Addr
  bn : Nat
  bc : Nat
  bs : RunL
abbrev BL := List Bk
def bk (l : BL) (i : Nat) : Bk := l.getD i ⟨0, ⟨0, 0, 0, 0, none, 0, 0, []⟩, none, 0, 0, []⟩
structure BksIn (w : World) (a : Option Addr) (n cap : Nat) (l : BL) : Prop where
  len : n = l.length
  le : n ≤ cap
  capb : cap ≤ 9223372036854775807
  cells : 0 < n → ∃ b off, a = some ⟨b, off, none⟩ ∧ ∀ i, i < n → w.cell? ⟨b, off + i * 7, none⟩ = some (.int .i64 (bk l i).id) ∧ w.cell? ⟨b, off + i * 7 + 1, none⟩ = some (.int .i64 (bk l i).rq.queue) ∧ w.cell? ⟨b, off + i * 7 + 2, none⟩ = some (.int .i64 (bk l i).rq.fr) ∧ w.cell? ⟨b, off + i * 7 + 3, none⟩ = some (.int .i64 (bk l i).rq.un) ∧ w.cell? ⟨b, off + i * 7 + 4, none⟩ = some (.int .i64 (bk l i).rq.kind) ∧ w.cell? ⟨b, off + i * 7 + 5, none⟩ = some (.slice (bk l i).rq.pa (bk l i).rq.pn (bk l i).rq.pc) ∧ w.cell? ⟨b, off + i * 7 + 6, none⟩ = some (.slice (bk l i).ba (bk l i).bn (bk l i).bc)
  rqs : ∀ i, i < n → RqIn w (bk l i).rq
  bites : ∀ i, i < n → RunsIn w (bk l i).ba (bk l i).bn (bk l i).bc (bk l i).bs
theorem BksIn.later {w w' : World} {a : Option Addr} {n cap : Nat} {l : BL} (h : BksIn w a n cap l) (hb : Below w.heap.size w w') : BksIn w' a n cap l := by
  refine ⟨h.len, h.le, h.capb, fun hp => ?_, fun i hi => (h.rqs i hi).later hb, fun i hi => (h.bites i hi).later hb⟩
  obtain ⟨b, off, ha, hc⟩ := h.cells hp
  refine ⟨b, off, ha, fun i hi => ?_⟩
  obtain ⟨c0, c1, c2, c3, c4, c5, c6⟩ := hc i hi
  exact ⟨cell_later hb c0, cell_later hb c1, cell_later hb c2, cell_later hb c3, cell_later hb c4, cell_later hb c5, cell_later hb c6⟩
theorem bk_cells (w : World) (x : Bk) : ∀ X : World, Below (w.alloc (.cells #[.int .i64 x.id, .int .i64 x.rq.queue, .int .i64 x.rq.fr, .int .i64 x.rq.un, .int .i64 x.rq.kind, .slice x.rq.pa x.rq.pn x.rq.pc, .slice x.ba x.bn x.bc] 40)).heap.size (w.alloc (.cells #[.int .i64 x.id, .int .i64 x.rq.queue, .int .i64 x.rq.fr, .int .i64 x.rq.un, .int .i64 x.rq.kind, .slice x.rq.pa x.rq.pn x.rq.pc, .slice x.ba x.bn x.bc] 40)) X → X.cell? ⟨w.heap.size, 0, none⟩ = some (.int .i64 x.id) ∧ X.cell? ⟨w.heap.size, 1, none⟩ = some (.int .i64 x.rq.queue) ∧ X.cell? ⟨w.heap.size, 2, none⟩ = some (.int .i64 x.rq.fr) ∧ X.cell? ⟨w.heap.size, 3, none⟩ = some (.int .i64 x.rq.un) ∧ X.cell? ⟨w.heap.size, 4, none⟩ = some (.int .i64 x.rq.kind) ∧ X.cell? ⟨w.heap.size, 5, none⟩ = some (.slice x.rq.pa x.rq.pn x.rq.pc) ∧ X.cell? ⟨w.heap.size, 6, none⟩ = some (.slice x.ba x.bn x.bc) :=
  fun X B2 => ⟨cell_later B2 (by go_simp), cell_later B2 (by go_simp), cell_later B2 (by go_simp), cell_later B2 (by go_simp), cell_later B2 (by go_simp), cell_later B2 (by go_simp), cell_later B2 (by go_simp)⟩

/-- the errors of one book -/
def chkB (l : QL) (x : Bk) : Int := if chkQR l x.rq = 0 then (if meets x.rq x.bs = true then 0 else 1) else chkQR l x.rq

set_option maxHeartbeats 1000000 in
theorem checkBook_any (w : World) (a : Option Addr) (n cap : Nat) (l : QL) (hl : QsIn w a n cap l) (x : Bk) (hr : RqIn w x.rq) (hb : RunsIn w x.ba x.bn x.bc x.bs) :
    Calls Try.prog 80 #[.slice a n cap, .agg #[.int .i64 x.id, .int .i64 x.rq.queue, .int .i64 x.rq.fr, .int .i64 x.rq.un, .int .i64 x.rq.kind, .slice x.rq.pa x.rq.pn x.rq.pc, .slice x.ba x.bn x.bc]] w fun e w' => e = .returned (.int .i64 (chkB l x)) ∧ Below w.heap.size w w' := by
  have B1 := hid ((Below.refl w.heap.size w).alloc (Nat.le_refl _) (.cells #[.int .i64 x.id, .int .i64 x.rq.queue, .int .i64 x.rq.fr, .int .i64 x.rq.un, .int .i64 x.rq.kind, .slice x.rq.pa x.rq.pn x.rq.pc, .slice x.ba x.bn x.bc] 40))
  have KB := hid (bk_cells w x)
  have K1 := CheckRq_any _ a n cap l (hl.later B1.out) x.rq (hr.later B1.out)
  have K2 := hid fun X (hX : Below w.heap.size w X) => Meets_any X x.rq (hr.later hX) x.ba x.bn x.bc x.bs (hb.later hX)
  clear hl hr hb
  by_cases he : chkQR l x.rq = 0
  · rw [he] at K1
    have HK1 := hid K1
    have hx : chkB l x = if meets x.rq x.bs = true then 0 else 1 := if_pos he
    rw [hx]
    clear he hx K1
    obtain ⟨m, hm⟩ : ∃ m, meets x.rq x.bs = m := ⟨_, rfl⟩
    rw [hm] at K2
    rw [hm]
    clear hm
    go_enter Try.func80, Try.ntmps80
    go_wp2_with fail
    refine HK1.out.mono ?_
    rintro e w1 ⟨rfl, h1⟩
    obtain ⟨c0, c1, c2, c3, c4, c5, c6⟩ := KB.out w1 h1
    have HB := hid (below_from B1.out h1)
    clear h1
    cases m
    all_goals
      go_wp2_with fail
      refine (K2.out w1 HB.out).mono ?_
      rintro e w2 ⟨rfl, h2⟩
      have HB2 := hid (below_from HB.out h2)
      clear h2
      go_wp2
      go_ret
      exact ⟨rfl, HB2.out⟩
  · have hx : chkB l x = chkQR l x.rq := if_neg he
    rw [hx]
    obtain ⟨er, her⟩ : ∃ er, chkQR l x.rq = er := ⟨_, rfl⟩
    rw [her] at K1 he
    rw [her]
    have hne : (er != 0) = true := by simp [he]
    have HK1 := hid K1
    clear hx K1 he her
    go_enter Try.func80, Try.ntmps80
    go_wp2_with fail
    refine HK1.out.mono ?_
    rintro e w1 ⟨rfl, h1⟩
    have HB := hid (below_from B1.out h1)
    clear h1
    go_wp2
    go_ret
    exact ⟨rfl, HB.out⟩

set_option maxRecDepth 100000 in
set_option maxHeartbeats 1000000 in
theorem check1_any (w : World) (a : Option Addr) (n cap : Nat) (l : QL) (hl : QsIn w a n cap l) (x : Bk) (hr : RqIn w x.rq) (hb : RunsIn w x.ba x.bn x.bc x.bs) (Bl Be : Nat) (e : Int) (hL : w.cell? ⟨Bl, 0, none⟩ = some (.slice a n cap)) (hE : w.cell? ⟨Be, 0, none⟩ = some (.int .i64 e)) :
    Calls Try.prog 79 #[.agg #[.int .i64 x.id, .int .i64 x.rq.queue, .int .i64 x.rq.fr, .int .i64 x.rq.un, .int .i64 x.rq.kind, .slice x.rq.pa x.rq.pn x.rq.pc, .slice x.ba x.bn x.bc], .pointer (some ⟨Bl, 0, none⟩), .pointer (some ⟨Be, 0, none⟩)] w fun r w' => r = .returned (.bool (decide (chkB l x = e))) ∧ Below w.heap.size w w' := by
  have B1 := hid ((Below.refl w.heap.size w).alloc (Nat.le_refl _) (.cells #[.int .i64 x.id, .int .i64 x.rq.queue, .int .i64 x.rq.fr, .int .i64 x.rq.un, .int .i64 x.rq.kind, .slice x.rq.pa x.rq.pn x.rq.pc, .slice x.ba x.bn x.bc] 40))
  have KB := hid (bk_cells w x)
  have KC := hid fun X (hX : Below w.heap.size w X) => checkBook_any X a n cap l (hl.later hX) x (hr.later hX) (hb.later hX)
  have HL := hid hL
  have HE := hid hE
  obtain ⟨C, hC⟩ : ∃ C, chkB l x = C := ⟨_, rfl⟩
  rw [hC] at KC
  rw [hC]
  clear hl hr hb hL hE hC
  go_enter Try.func79, Try.ntmps79
  go_wp2_with fail
  refine wp_region_des ((Try.f79.body.bind fun c => regOps c 1).getD #[]) (by kernel_rfl) [isV (.slice a n cap), isV (.agg #[.int .i64 x.id, .int .i64 x.rq.queue, .int .i64 x.rq.fr, .int .i64 x.rq.un, .int .i64 x.rq.kind, .slice x.rq.pa x.rq.pn x.rq.pc, .slice x.ba x.bn x.bc]), isV (.int .i64 C), isV (.int .i64 e), isV (.bool (decide (C = e))), isV (.bool (decide (C = e)))] [] (by kernel_rfl) (by kernel_rfl) (by kernel_rfl) ?hg ?hstep ?hfin
  case hg =>
    intro g hg v w h
    cases hg
  case hstep =>
    refine AllOps.cons 1 rfl ?_ ?_
    · intro T w' hb hl hd
      have h0 : T.getD 1 undef = .pointer (some ⟨Bl, 0, none⟩) := hl 1 (by kernel_rfl)
      have cl := cell_later (below_from B1.out hb) HL.out
      exact Or.inl ⟨.slice a n cap, w', by go_simp, rfl, Below.refl _ _⟩
    refine AllOps.cons 2 rfl ?_ ?_
    · intro T w' hb hl hd
      have h0 : T.getD 3 undef = .pointer (some ⟨w.heap.size, 0, none⟩) := hl 3 (by kernel_rfl)
      obtain ⟨c0, c1, c2, c3, c4, c5, c6⟩ := KB.out w' hb
      exact Or.inl ⟨.agg #[.int .i64 x.id, .int .i64 x.rq.queue, .int .i64 x.rq.fr, .int .i64 x.rq.un, .int .i64 x.rq.kind, .slice x.rq.pa x.rq.pn x.rq.pc, .slice x.ba x.bn x.bc], w', by go_simp, rfl, Below.refl _ _⟩
    refine AllOps.cons 3 rfl ?_ ?_
    · intro T w' hb hl hd
      have h0 : T.getD 5 undef = .slice a n cap := hd 0 5 (by kernel_rfl)
      have h1 : T.getD 6 undef = .agg #[.int .i64 x.id, .int .i64 x.rq.queue, .int .i64 x.rq.fr, .int .i64 x.rq.un, .int .i64 x.rq.kind, .slice x.rq.pa x.rq.pn x.rq.pc, .slice x.ba x.bn x.bc] := hd 1 6 (by kernel_rfl)
      refine Or.inr ⟨80, #[.slice a n cap, .agg #[.int .i64 x.id, .int .i64 x.rq.queue, .int .i64 x.rq.fr, .int .i64 x.rq.un, .int .i64 x.rq.kind, .slice x.rq.pa x.rq.pn x.rq.pc, .slice x.ba x.bn x.bc]], by go_simp, ?_⟩
      refine (KC.out w' (below_from B1.out hb)).mono ?_
      rintro e w'' ⟨rfl, hbb⟩
      exact ⟨_, rfl, rfl, hbb⟩
    refine AllOps.cons 4 rfl ?_ ?_
    · intro T w' hb hl hd
      have h0 : T.getD 2 undef = .pointer (some ⟨Be, 0, none⟩) := hl 2 (by kernel_rfl)
      have cl := cell_later (below_from B1.out hb) HE.out
      exact Or.inl ⟨.int .i64 e, w', by go_simp, rfl, Below.refl _ _⟩
    refine AllOps.cons 5 rfl ?_ ?_
    · intro T w' hb hl hd
      have h0 : T.getD 7 undef = .int .i64 C := hd 2 7 (by kernel_rfl)
      have h1 : T.getD 8 undef = .int .i64 e := hd 3 8 (by kernel_rfl)
      have hdec : (C == e) = decide (C = e) := by rw [Bool.eq_iff_iff]; simp
      exact Or.inl ⟨.bool (decide (C = e)), w', by go_simp, rfl, Below.refl _ _⟩
    refine AllOps.cons 6 rfl ?_ ?_
    · intro T w' hb hl hd
      have h0 : T.getD 9 undef = .bool (decide (C = e)) := hd 4 9 (by kernel_rfl)
      exact Or.inl ⟨.bool (decide (C = e)), w', by go_simp, rfl, Below.refl _ _⟩
    exact trivial
  case hfin =>
    intro T w' hb hs hl hd
    have e4 : T.getD 4 undef = .bool (decide (C = e)) := hd 5 4 (by kernel_rfl)
    rw [lit_then [true, true, true, true, false, false, false, false, false, false] (by kernel_rfl) hs hl]
    obtain ⟨us, hus⟩ : ∃ us : Nat → Value, (fun d => T.getD d undef) = us := ⟨_, rfl⟩
    rw [hus]
    have f4 : us 4 = .bool (decide (C = e)) := by rw [← hus]; exact e4
    simp only [fillL, f4]
    go_wp2
    go_ret
    exact ⟨rfl, below_from B1.out hb⟩
end Go.Proofs.Ytcgchicdmgllaad
