/- Several texts in one: Same, CutY, CutZ, ChgA, ChgB, ChgC, ChgD, ChgF, LogL, LogM, LogN, LogO, LogP, LogQ. -/
import Derived.Test.YtckpdfkobdgjeaaGreatDoorKAll6
import Derived.Test.YtckpdfkobdgjeaaGreatDoorKAll7
import Derived.Test.YtckpdfkobdgjeaaGreatDoorKAll4
namespace Go.Proofs.YtckpdfkobdgjeaaGreatDoor
open Go.RowKit
theorem same_rq {r s : Rq} (h : r.bare = s.bare) : r.queue = s.queue ∧ r.fr = s.fr ∧ r.un = s.un ∧ r.kind = s.kind ∧ r.ps = s.ps :=
  ⟨show r.bare.queue = s.bare.queue by rw [h], show r.bare.fr = s.bare.fr by rw [h], show r.bare.un = s.bare.un by rw [h], show r.bare.kind = s.bare.kind by rw [h], show r.bare.ps = s.bare.ps by rw [h]⟩
theorem rq_boxes (w : World) (r s : Rq) {W : World} (hW : W = (w.alloc (.cells #[.int .i64 r.queue, .int .i64 r.fr, .int .i64 r.un, .int .i64 r.kind, .slice r.pa r.pn r.pc] 24)).alloc (.cells #[.int .i64 s.queue, .int .i64 s.fr, .int .i64 s.un, .int .i64 s.kind, .slice s.pa s.pn s.pc] 24)) : RqBox W w.heap.size r ∧ RqBox W (w.heap.size + 1) s ∧ Below w.heap.size w W := by
  subst hW
  refine ⟨(Below.heap_alloc _ _ _ (by simp)).trans (heap_alloc_new w _), ?_, ((Below.refl _ _).alloc (Nat.le_refl _) _).alloc (by simp) _⟩
  have := heap_alloc_new (w.alloc (.cells #[.int .i64 r.queue, .int .i64 r.fr, .int .i64 r.un, .int .i64 r.kind, .slice r.pa r.pn r.pc] 24)) (.cells #[.int .i64 s.queue, .int .i64 s.fr, .int .i64 s.un, .int .i64 s.kind, .slice s.pa s.pn s.pc] 24)
  rw [World.size_alloc] at this
  exact this
set_option maxRecDepth 100000 in
set_option maxHeartbeats 1000000 in
theorem SameReqs_at (w : World) (q f u k : Int) (a1 a2 : Option Addr) (n c1 c2 : Nat) (l : RunL) (h1 : RunsIn w a1 n c1 l) (h2 : RunsIn w a2 n c2 l) :
    Calls Tryz.prog 39 #[.agg #[.int .i64 q, .int .i64 f, .int .i64 u, .int .i64 k, .slice a1 n c1], .agg #[.int .i64 q, .int .i64 f, .int .i64 u, .int .i64 k, .slice a2 n c2]] w fun e w' => e = .returned (.bool true) ∧ Below w.heap.size w w' := by
  obtain ⟨S, hS⟩ : ∃ S, w.heap.size = S := ⟨_, rfl⟩
  obtain ⟨W1, hW1⟩ : ∃ W1, W1 = (w.alloc (.cells #[.int .i64 q, .int .i64 f, .int .i64 u, .int .i64 k, .slice a1 n c1] 24)).alloc (.cells #[.int .i64 q, .int .i64 f, .int .i64 u, .int .i64 k, .slice a2 n c2] 24) := ⟨_, rfl⟩
  obtain ⟨x1, x2, hb0⟩ := rq_boxes w ⟨q, f, u, k, a1, n, c1, l⟩ ⟨q, f, u, k, a2, n, c2, l⟩ hW1
  rw [hS] at x1 x2
  have hle := h1.le
  have hbd := h1.bound
  have hcb := h1.capb
  have hle2 := h2.le
  have hcb2 := h2.capb
  have hcc : Hid (0 < n → ∃ b1 off1 b2 off2, a1 = some ⟨b1, off1, none⟩ ∧ a2 = some ⟨b2, off2, none⟩ ∧ (∀ i, i < n → W1.cell? ⟨b1, off1 + i * 2, none⟩ = some (.int .i64 (rAt l i)) ∧ W1.cell? ⟨b1, off1 + i * 2 + 1, none⟩ = some (.int .i64 (rN l i))) ∧ (∀ i, i < n → W1.cell? ⟨b2, off2 + i * 2, none⟩ = some (.int .i64 (rAt l i)) ∧ W1.cell? ⟨b2, off2 + i * 2 + 1, none⟩ = some (.int .i64 (rN l i)))) := by
    intro hp
    obtain ⟨b1, o1, e1, d1⟩ := (h1.later hb0).cells hp
    obtain ⟨b2, o2, e2, d2⟩ := (h2.later hb0).cells hp
    exact ⟨b1, o1, b2, o2, e1, e2, d1, d2⟩
  have HB0 := hid hb0
  have HW1 := hid hW1
  have HX1 := hid x1
  have HX2 := hid x2
  have hq : (q != q) = false := by simp
  have hf : (f != f) = false := by simp
  have hu : (u != u) = false := by simp
  have hk : (k != k) = false := by simp
  have hne : ((n : Int) != n) = false := by simp
  obtain ⟨p0, p1, p2, p3, p4⟩ := x1.cells
  obtain ⟨s0, s1, s2, s3, s4⟩ := x2.cells
  clear h1 h2 hb0 x1 x2 hW1
  by_cases hp : 0 < n
  · obtain ⟨b1, o1, b2, o2, rfl, rfl, d1, d2⟩ := hcc.out hp
    go_enter Tryz.func39, Tryz.ntmps39
    go_wp2
    go_loopw [5] (fun s wr => ∃ j : Nat, s = .int .i64 j ∧ j ≤ n ∧ ∃ d, wr = W1.drewN d) (fun s _ => n - (intOf s).toNat)
    case atStart => exact ⟨0, rfl, by omega, 0, by rw [HW1.out]; rfl⟩
    case round =>
      obtain ⟨j, rfl, hj1, hd⟩ := hrel
      have HD : Hid (∃ d, wr = W1.drewN d) := hd
      have hcr : ∀ a, wr.cell? a = W1.cell? a := by obtain ⟨d, rfl⟩ := hd; exact fun a => rfl
      clear hd
      have t4 : wr.cell? ⟨S, 4, none⟩ = some (.slice (some ⟨b1, o1, none⟩) n c1) := (hcr _).trans p4
      have v4 : wr.cell? ⟨S + 1, 4, none⟩ = some (.slice (some ⟨b2, o2, none⟩) n c2) := (hcr _).trans s4
      by_cases hj : j < n
      · have hj' : (j : Int) < n := by omega
        have y0 : wr.cell? ⟨b1, o1 + j * 2, none⟩ = some (.int .i64 (rAt l j)) := (hcr _).trans (d1 j hj).1
        have y1 : wr.cell? ⟨b1, o1 + j * 2 + 1, none⟩ = some (.int .i64 (rN l j)) := (hcr _).trans (d1 j hj).2
        have z0 : wr.cell? ⟨b2, o2 + j * 2, none⟩ = some (.int .i64 (rAt l j)) := (hcr _).trans (d2 j hj).1
        have z1 : wr.cell? ⟨b2, o2 + j * 2 + 1, none⟩ = some (.int .i64 (rN l j)) := (hcr _).trans (d2 j hj).2
        clear hcr d1 d2
        go_wp2
        go_quiet (fail)
        go_wp2
        go_roundw
        case rel => exact ⟨j + 1, by go_num, by omega, drawn_more HD _⟩
        case measure => simp [intOf]; omega
      · obtain rfl : j = n := by omega
        clear hcr d1 d2
        go_wp2
        go_ret
        refine ⟨rfl, ?_⟩
        obtain ⟨d, hd⟩ := HD.out
        rw [hd]
        exact below_from HB0.out (below_drewN W1 d)
  · obtain rfl : n = 0 := by omega
    clear hcc
    go_enter Tryz.func39, Tryz.ntmps39
    go_wp2
    go_loopw [5] (fun s wr => s = .int .i64 0 ∧ wr = W1) (fun _ _ => 0)
    case atStart => exact ⟨rfl, HW1.out.symm⟩
    case round =>
      obtain ⟨rfl, rfl⟩ := hrel
      go_wp2
      go_ret
      exact ⟨rfl, HB0.out⟩
theorem SameReqs_same (w : World) (r s : Rq) (h1 : RqIn w r) (h2 : RqIn w s) (he : r.bare = s.bare) :
    Calls Tryz.prog 39 #[.agg #[.int .i64 r.queue, .int .i64 r.fr, .int .i64 r.un, .int .i64 r.kind, .slice r.pa r.pn r.pc], .agg #[.int .i64 s.queue, .int .i64 s.fr, .int .i64 s.un, .int .i64 s.kind, .slice s.pa s.pn s.pc]] w fun e w' => e = .returned (.bool true) ∧ Below w.heap.size w w' := by
  obtain ⟨e1, e2, e3, e4, e5⟩ := same_rq he
  have g1 : RunsIn w r.pa r.pn r.pc r.ps := h1
  have g2 : RunsIn w s.pa s.pn s.pc s.ps := h2
  have em : r.pn = s.pn := g1.len.trans ((congrArg List.length e5).trans g2.len.symm)
  rw [em, e5] at g1
  rw [e1, e2, e3, e4, em]
  exact SameReqs_at w s.queue s.fr s.un s.kind r.pa s.pa s.pn r.pc s.pc s.ps g1 g2
end Go.Proofs.YtckpdfkobdgjeaaGreatDoor
namespace Go.Proofs.YtckpdfkobdgjeaaGreatDoor
open Go.RowKit
def set4 (w : World) (B : Nat) (a b c d : Value) : World := (((w.setCell ⟨B, 0, none⟩ a).setCell ⟨B, 1, none⟩ b).setCell ⟨B, 2, none⟩ c).setCell ⟨B, 3, none⟩ d
theorem set4_size (w : World) (B : Nat) (a b c d : Value) : (set4 w B a b c d).heap.size = w.heap.size := by simp [set4, World.setCell]
theorem set4_grown {w : World} {B : Nat} {x0 x1 x2 x3 : Value} (h : StBox w B x0 x1 x2 x3) (a b c d : Value) : w.grownBy (set4 w B a b c d) (some B) :=
  ⟨rfl, rfl, rfl, by rw [set4_size]; exact Nat.le_refl _, fun k _ hne => (four_stores w B 40 _ _ _ _ a b c d h).2 k (fun e => hne (by rw [e]))⟩
structure YInv (w wy : World) (S B1 B : Nat) (c n : Int) (g k1 tn : Nat) (l3 : QL) (aa : Option Addr) (bn k3 : Nat) (b' : BL) : Prop where
  box : StBox wy B (.int .i64 c) (.int .i64 n) (.slice (some ⟨g, 0, none⟩) tn k1) (.slice aa bn k3)
  res : StBox wy (S + 1) (.int .i64 0) (.int .i64 0) (.slice none 0 0) (.slice none 0 0)
  qs : QsIn wy (some ⟨g, 0, none⟩) tn k1 l3
  qrow : B1 ≤ g ∧ g ≠ B ∧ ∀ gb, aa = some ⟨gb, 0, none⟩ → g ≠ gb
  caps : ∀ i, i < tn → 0 < (qu l3 i).cn → ∀ k off, (qu l3 i).ca = some ⟨k, off, none⟩ → B1 ≤ k ∧ k ≠ B ∧ ∀ gb, aa = some ⟨gb, 0, none⟩ → k ≠ gb
  row : wy.ownsRow B1 60 7 (.slice aa bn k3) bn (bkCells b')
  inner : ∀ x ∈ b', Inner wy x
  ps : ∀ x ∈ b', 0 < x.rq.pn → ∀ k off, x.rq.pa = some ⟨k, off, none⟩ → B1 ≤ k ∧ k ≠ B ∧ ∀ gb, aa = some ⟨gb, 0, none⟩ → k ≠ gb
  bs : ∀ x ∈ b', 0 < x.bn → ∀ k off, x.ba = some ⟨k, off, none⟩ → B1 ≤ k ∧ k ≠ B ∧ ∀ gb, aa = some ⟨gb, 0, none⟩ → k ≠ gb
  below : Below w.heap.size w wy
  sz : w.heap.size = S
  b1 : S + 2 ≤ B1 ∧ B1 ≤ B
  bsz : B < wy.heap.size
  bl : bn = b'.length
theorem YInv.off {w wy : World} {S B1 B : Nat} {c n : Int} {g k1 tn : Nat} {l3 : QL} {gb bn k3 : Nat} {b' : BL} (h : YInv w wy S B1 B c n g k1 tn l3 (some ⟨gb, 0, none⟩) bn k3 b') :
    QsIn (OffL [S + 1, B, gb] wy) (some ⟨g, 0, none⟩) tn k1 l3 ∧ ∀ x ∈ b', Inner (OffL [S + 1, B, gb] wy) x := by
  have hb1 := h.b1
  have key : ∀ k, (B1 ≤ k ∧ k ≠ B ∧ ∀ gb', some (⟨gb, 0, none⟩ : Addr) = some ⟨gb', 0, none⟩ → k ≠ gb') → k ∉ [S + 1, B, gb] := by
    intro k hk hm
    have h1 := hk.2.2 gb rfl
    simp only [List.mem_cons, List.not_mem_nil, or_false] at hm
    rcases hm with e | e | e
    · omega
    · exact hk.2.1 e
    · exact h1 e
  refine ⟨h.qs.offL _ (fun _ k off e => ?_) (fun i hi hp k off e => key k (h.caps i hi hp k off e)), fun x hx => ⟨RunsIn.offL (h.inner x hx).1 _ fun hp k off e => key k (h.ps x hx hp k off e), RunsIn.offL (h.inner x hx).2 _ fun hp k off e => key k (h.bs x hx hp k off e)⟩⟩
  have e1 : g = k := by
    injection e with e
    injection e with e1 e2
  rw [← e1]
  exact key g h.qrow
theorem YInv.done {w wy w6 : World} {S B1 B : Nat} {c n : Int} {g k1 tn : Nat} {l3 l : QL} {gb bn k3 : Nat} {b' b : BL} {q : Nat} {rs : RunL} (h : YInv w wy S B1 B c n g k1 tn l3 (some ⟨gb, 0, none⟩) bn k3 b')
    {b1 aw b9 : BL} {mv dr : List Int} {gx kx : Nat} {ma : Option Addr} {mk : Nat} {da : Option Addr} {dk : Nat} {x3 : Value} (hbut : But [S + 1, B, gb] wy w6) (hbox : StBox w6 B (.int .i64 c) (.int .i64 n) (.slice (some ⟨g, 0, none⟩) tn k1) x3) (hres : StBox w6 (S + 1) (.int .i64 0) (.int .i64 0) (.slice none 0 0) (.slice none 0 0))
    (hl : bareQ l3 = bareQ (capL l q rs)) (hb : bareB b' = bareB b) (hlit : Lit c l3 b' b1 aw) (hs1 : ∀ x ∈ b1, x ∈ b') (hs2 : ∀ x ∈ aw, x ∈ b') (hno : ∀ u, c ≤ u → u < 48 → ∀ k, k < l3.length → overI l3 b1 u k = false) (hstl : Stl c l3 b1 aw aw.length b9 mv dr) (hrow : w6.ownsRow B1 60 7 (.slice (some ⟨gx, 0, none⟩) b9.length kx) b9.length (bkCells b9)) {S0 : Nat} (hS0 : w.heap.size ≤ S0) (hin : ∀ x ∈ b9, InnerS S0 b1 aw w6 x)
    (hm : OwnInts w6 w.heap.size (.slice ma mv.length mk) mv) (hd : OwnInts w6 w.heap.size (.slice da dr.length dk) dr) (hgb : w.heap.size ≤ gb) :
    ChNew w (set4 (set4 w6 B (.int .i64 c) (.int .i64 n) (.slice (some ⟨g, 0, none⟩) tn k1) (.slice (some ⟨gx, 0, none⟩) b9.length kx)) (S + 1) (.int .i64 c) (.int .i64 n) (.slice (some ⟨g, 0, none⟩) tn k1) (.slice (some ⟨gx, 0, none⟩) b9.length kx)) (.returned (.tuple #[.agg #[.int .i64 c, .int .i64 n, .slice (some ⟨g, 0, none⟩) tn k1, .slice (some ⟨gx, 0, none⟩) b9.length kx], .slice ma mv.length mk, .slice da dr.length dk, .int .i64 0])) c n tn l b q rs := by
  obtain ⟨hQ, hI⟩ := h.off
  have hb1 := h.b1
  have hsz := h.sz
  obtain ⟨w7, hw7⟩ : ∃ w7, w7 = set4 w6 B (.int .i64 c) (.int .i64 n) (.slice (some ⟨g, 0, none⟩) tn k1) (.slice (some ⟨gx, 0, none⟩) b9.length kx) := ⟨_, rfl⟩
  rw [← hw7]
  have g7 : w6.grownBy w7 (some B) := by rw [hw7]; exact set4_grown hbox _ _ _ _
  have hres7 : StBox w7 (S + 1) (.int .i64 0) (.int .i64 0) (.slice none 0 0) (.slice none 0 0) := (g7.block (S + 1) (Array.getElem?_eq_some_iff.1 hres).1 (fun e => by have := Option.some.inj e; omega)).trans hres
  obtain ⟨w8, hw8⟩ : ∃ w8, w8 = set4 w7 (S + 1) (.int .i64 c) (.int .i64 n) (.slice (some ⟨g, 0, none⟩) tn k1) (.slice (some ⟨gx, 0, none⟩) b9.length kx) := ⟨_, rfl⟩
  rw [← hw8]
  have g8 : w7.grownBy w8 (some (S + 1)) := by rw [hw8]; exact set4_grown hres7 _ _ _ _
  have hall : But [S + 1, B, gb] wy w8 := hbut.trans ((But.grown g7 (by simp)).trans (But.grown g8 (by simp)))
  have s7 : Stay w6 w7 := Stay.grown g7 (fun k e => by cases e; exact not_pb hbox (Or.inr (Or.inl rfl)))
  have s8 : Stay w7 w8 := Stay.grown g8 (fun k e => by cases e; exact not_pb hres7 (Or.inr (Or.inl rfl)))
  have r7 := hrow.kept g7 (Or.inr fun e => hbox.not_row hrow e.symm)
  have r8 := r7.kept g8 (Or.inr fun e => hres7.not_row r7 e.symm)
  have m7 := hm.keep g7 (Or.inr fun e => int_not_row hbox hm (by decide) e.symm)
  have d7 := hd.keep g7 (Or.inr fun e => int_not_row hbox hd (by decide) e.symm)
  have m8 := m7.keep g8 (Or.inr fun e => int_not_row hres7 m7 (by decide) e.symm)
  have d8 := d7.keep g8 (Or.inr fun e => int_not_row hres7 d7 (by decide) e.symm)
  refine ⟨g, k1, l3, some ⟨gx, 0, none⟩, kx, b9, b', b1, aw, mv, dr, ma, mk, da, dk, rfl, ⟨(hQ.later (offL_below hall)).onL, books_in rfl r8 fun x hx => ?_⟩, hl, hb, hlit, hno, hstl, m8, d8, h.below.trans (hall.far (by have := h.bsz; omega) fun k hk => ?_), ?_⟩
  · rcases hin x hx with hx1 | ⟨⟨X, hX, e⟩, hp, _⟩
    · exact ((hI x (hs1 x hx1)).later (offL_below hall)).onL
    · refine ⟨?_, ((hp.stay s7).stay s8).1⟩
      rw [e]
      exact (((hI X (hs2 X hX)).later (offL_below hall)).onL).1
  · simp only [List.mem_cons, List.not_mem_nil, or_false] at hk
    rcases hk with e | e | e <;> omega
  · refine ⟨fun _ g' off e => ?_, fun i hi hp g' off e => ?_, fun _ g' off e => ?_, fun i hi hp g' off e => ?_, fun i hi hp g' off e => ?_⟩
    · have h1 := h.qrow.1
      have e1 : g = g' := by injection e with e; injection e with e1
      omega
    · have h1 := (h.caps i hi hp g' off e).1
      omega
    · have h1 := (hrow.lt gx rfl).1
      have e1 : gx = g' := by injection e with e; injection e with e1
      omega
    · rcases hin _ (bk_mem hi) with hx1 | ⟨⟨X, hX, e2⟩, _⟩
      · have h1 := (h.ps _ (hs1 _ hx1) hp g' off e).1
        omega
      · rw [e2] at hp e
        have h1 := (h.ps _ (hs2 X hX) hp g' off e).1
        omega
    · rcases hin _ (bk_mem hi) with hx1 | ⟨_, _, hn⟩
      · have h1 := (h.bs _ (hs1 _ hx1) hp g' off e).1
        omega
      · have h1 := hn g' off e
        omega
theorem YInv.later {w wy wz : World} {S B1 B : Nat} {c n : Int} {g k1 tn : Nat} {l3 : QL} {aa : Option Addr} {bn k3 : Nat} {b' : BL} (h : YInv w wy S B1 B c n g k1 tn l3 aa bn k3 b') (hb : Below wy.heap.size wy wz) : YInv w wz S B1 B c n g k1 tn l3 aa bn k3 b' :=
  ⟨h.box.later hb, h.res.later hb, h.qs.later hb, h.qrow, h.caps, ownsRow_below h.row hb, fun x hx => (h.inner x hx).later hb, h.ps, h.bs, below_from h.below hb, h.sz, h.b1, Nat.lt_of_lt_of_le h.bsz hb.size, h.bl⟩
theorem none_in (w : World) : BksIn w none 0 0 [] := ⟨rfl, Nat.le_refl _, by omega, fun h => by omega, fun i h => by omega, fun i h => by omega⟩
end Go.Proofs.YtckpdfkobdgjeaaGreatDoor
namespace Go.Proofs.YtckpdfkobdgjeaaGreatDoor
open Go.RowKit
end Go.Proofs.YtckpdfkobdgjeaaGreatDoor
namespace Go.Proofs.YtckpdfkobdgjeaaGreatDoor
open Go.RowKit
end Go.Proofs.YtckpdfkobdgjeaaGreatDoor
namespace Go.Proofs.YtckpdfkobdgjeaaGreatDoor
theorem overI_bare (l : QL) (b : BL) (t : Int) (q : Nat) : overI (bareQ l) (bareB b) t q = overI l b t q := by
  unfold overI leftT
  rw [len_bareB, takenTo_bare, qu_bare]
  rfl
theorem takesB_bare (X : Bk) (t : Int) : takesB X.bare t = takesB X t := by kernel_rfl
theorem standsIn_bare (l : QL) (p q : Int) : standsIn (bareQ l) p q = standsIn l p q := by
  unfold standsIn
  rw [lineOf_bare]
theorem hitsI_bare (l : QL) (b : BL) (t q : Int) (i : Nat) : hitsI (bareQ l) (bareB b) t q i = hitsI l b t q i := by
  unfold hitsI
  rw [bk_bare, takesB_bare]
  show (standsIn (bareQ l) (bk b i).rq.queue q && _) = _
  rw [standsIn_bare]
theorem lastI_bare (l : QL) (b : BL) (t q : Int) : ∀ n, lastI (bareQ l) (bareB b) t q n = lastI l b t q n
  | 0 => rfl
  | n + 1 => by rw [lastI, lastI, hitsI_bare, lastI_bare l b t q n]
theorem posI_bare (b : BL) (id : Int) : ∀ n, posI (bareB b) id n = posI b id n
  | 0 => rfl
  | n + 1 => by
    rw [posI, posI, posI_bare b id n, bk_bare]
    rfl
theorem putB_bare (b : BL) (x : Bk) : bareB (putB b x) = putB (bareB b) x.bare := by
  unfold putB insB
  show (List.map Bk.bare _) = _
  rw [len_bareB, show (x.bare).id = x.id from rfl, posI_bare]
  simp only [bareB, List.map_append, List.map_cons, List.map_take, List.map_drop]
theorem lessB_bare (b : BL) (i : Nat) : bareB (lessB b i) = lessB (bareB b) i := by
  unfold lessB
  simp only [bareB, List.map_append, List.map_take, List.map_drop]
theorem firstAns_bare {c : Int} {l : QL} {b : BL} {n : Nat} {t q : Int} {f : Bool} (h : FirstAns c l b n t q f) : FirstAns c (bareQ l) (bareB b) n t q f := by
  rcases h with ⟨h1, h2, h3, h4⟩ | ⟨h1, h2, h3, k, h4, h5, h6, h7, h8⟩
  · exact Or.inl ⟨h1, h2, h3, fun u a1 a2 k hk => by rw [overI_bare]; exact h4 u a1 a2 k hk⟩
  · exact Or.inr ⟨h1, h2, h3, k, h4, h5, by rw [overI_bare]; exact h6, fun i hi => by rw [overI_bare]; exact h7 i hi, fun u a1 a2 i hi => by rw [overI_bare]; exact h8 u a1 a2 i hi⟩
theorem Lit.bare {c : Int} {l : QL} {b0 b aw : BL} (h : Lit c l b0 b aw) : Lit c (bareQ l) (bareB b0) (bareB b) (bareB aw) := by
  induction h with
  | start => exact Lit.start
  | @step b aw t q _ hf ih =>
    rw [lessB_bare, putB_bare, ← bk_bare]
    have h1 := firstAns_bare hf
    have h2 := Lit.step ih (by rw [len_bareQ]; exact h1)
    rw [len_bareB, lastI_bare] at h2
    exact h2
def overQ (l : QL) (b : BL) (t : Int) : Nat → Nat → Option Nat
  | 0, _ => none
  | n + 1, q => if overI l b t q = true then some q else overQ l b t n (q + 1)
def overT (l : QL) (b : BL) : Nat → Int → Option (Int × Nat)
  | 0, _ => none
  | n + 1, t => match overQ l b t l.length 0 with
    | some q => some (t, q)
    | none => overT l b n (t + 1)
theorem overQ_none {l : QL} {b : BL} {t : Int} : ∀ {n q : Nat}, (∀ i, q ≤ i → i < q + n → overI l b t i = false) → overQ l b t n q = none
  | 0, _, _ => rfl
  | n + 1, q, h => by
    rw [overQ, h q (Nat.le_refl _) (by omega), if_neg (by decide)]
    exact overQ_none fun i h1 h2 => h i (by omega) (by omega)
theorem overQ_some {l : QL} {b : BL} {t : Int} {k : Nat} (hk : overI l b t k = true) : ∀ {n q : Nat}, q ≤ k → k < q + n → (∀ i, q ≤ i → i < k → overI l b t i = false) → overQ l b t n q = some k
  | 0, _, h1, h2, _ => by omega
  | n + 1, q, h1, h2, h3 => by
    rw [overQ]
    by_cases e : q = k
    · subst e; rw [if_pos hk]
    · rw [h3 q (Nat.le_refl _) (by omega), if_neg (by decide)]
      exact overQ_some hk (by omega) (by omega) fun i a1 a2 => h3 i (by omega) a2
theorem overT_none {l : QL} {b : BL} : ∀ {n : Nat} {t : Int}, (∀ u, t ≤ u → u < t + n → ∀ i, i < l.length → overI l b u i = false) → overT l b n t = none
  | 0, _, _ => rfl
  | n + 1, t, h => by
    rw [overT, overQ_none fun i _ hi => h t (Int.le_refl _) (by omega) i (by omega)]
    exact overT_none fun u h1 h2 => h u (by omega) (by omega)
theorem overT_some {l : QL} {b : BL} {s : Int} {k : Nat} (hk : overI l b s k = true) (hkl : k < l.length) (hf : ∀ i, i < k → overI l b s i = false) : ∀ {n : Nat} {t : Int}, t ≤ s → s < t + n → (∀ u, t ≤ u → u < s → ∀ i, i < l.length → overI l b u i = false) → overT l b n t = some (s, k)
  | 0, _, h1, h2, _ => by omega
  | n + 1, t, h1, h2, h3 => by
    rw [overT]
    by_cases e : t = s
    · subst e
      rw [overQ_some hk (Nat.zero_le _) (by omega) fun i _ hi => hf i hi]
    · rw [overQ_none fun i _ hi => h3 t (Int.le_refl _) (by omega) i (by omega)]
      exact overT_some hk hkl hf (by omega) (by omega) fun u a1 a2 => h3 u (by omega) a2
def litF (c : Int) (l : QL) : Nat → BL → BL → BL × BL
  | 0, b, aw => (b, aw)
  | k + 1, b, aw => match overT l b (48 - c).toNat c with
    | none => (b, aw)
    | some (t, q) => litF c l k (lessB b (lastI l b t q b.length)) (putB aw (bk b (lastI l b t q b.length)))
theorem litF_run {c : Int} {l : QL} {b0 b aw : BL} (h : Lit c l b0 b aw) : ∀ k, litF c l (aw.length + k) b0 [] = litF c l k b aw := by
  induction h with
  | start => intro k; rw [List.length_nil, Nat.zero_add]
  | @step b aw t q _ hf ih =>
    intro k
    rw [putB_len, Nat.add_assoc, Nat.add_comm 1 k, ih (k + 1), litF]
    rcases hf with ⟨e, _⟩ | ⟨_, t0, t1, j, hj, hqj, ho, hf1, hf2⟩
    · cases e
    · have hq : q = j := by omega
      subst hq
      rw [overT_some ho hj hf1 t0 (by omega) hf2]
theorem litF_is {c : Int} {l : QL} {b0 b aw : BL} (h : Lit c l b0 b aw) (hno : ∀ u, c ≤ u → u < 48 → ∀ q, q < l.length → overI l b u q = false) {m : Nat} (hm : aw.length ≤ m) : litF c l m b0 [] = (b, aw) := by
  obtain ⟨k, rfl⟩ : ∃ k, m = aw.length + k := ⟨m - aw.length, by omega⟩
  rw [litF_run h k]
  cases k with
  | zero => rfl
  | succ k => rw [litF, overT_none fun u h1 h2 i hi => hno u h1 (by omega) i hi]
theorem begunB_bare (X : Bk) (c : Int) : begunB X.bare c = begunB X c := by kernel_rfl
theorem placeR_bare (l : QL) (b : BL) (r : Rq) : placeR (bareQ l) (bareB b) r.bare = placeR l b r := by
  unfold placeR
  show (if roomE (bareQ l) (bareB b) r.queue = 0 then (if placeErr (roomR (bareQ l) (bareB b) r.queue) r.bare = 0 then findA r.bare (roomR (bareQ l) (bareB b) r.queue) else ([], false)) else ([], false)) = _
  rw [roomE_bare, roomR_bare, findA_bare]
  rfl
theorem replR_bare (c : Int) (l : QL) (b : BL) (X : Bk) : replR c (bareQ l) (bareB b) X.bare = replR c l b X := by
  unfold replR
  rw [begunB_bare, show X.bare.rq.from c = (X.rq.from c).bare from rfl, placeR_bare]
def stlF (c : Int) (l : QL) : BL → BL → List Int → List Int → BL × List Int × List Int
  | [], b, mv, dr => (b, mv, dr)
  | X :: r, b, mv, dr => if (replR c l b X).2 = true then stlF c l r (putB b ⟨X.id, X.rq, none, 0, 0, (replR c l b X).1⟩) (mv ++ [X.id]) dr else stlF c l r b mv (dr ++ [X.id])
theorem stlF_run {c : Int} {l : QL} {b1 aw b : BL} {j : Nat} {mv dr : List Int} (h : Stl c l b1 aw j b mv dr) : stlF c (bareQ l) (bareB aw) (bareB b1) [] [] = stlF c (bareQ l) (bareB (aw.drop j)) (bareB b) mv dr := by
  induction h with
  | start => rfl
  | @moved j b mv dr fa fm fc _ hj hr ih =>
    rw [ih, show aw.drop j = bk aw j :: aw.drop (j + 1) by rw [bk_is hj]; exact (List.getElem_cons_drop hj).symm]
    show stlF c (bareQ l) ((bk aw j).bare :: bareB (aw.drop (j + 1))) _ _ _ = _
    rw [stlF, replR_bare, if_pos hr, putB_bare]
    rfl
  | @dropped j b mv dr _ hj hr ih =>
    rw [ih, show aw.drop j = bk aw j :: aw.drop (j + 1) by rw [bk_is hj]; exact (List.getElem_cons_drop hj).symm]
    show stlF c (bareQ l) ((bk aw j).bare :: bareB (aw.drop (j + 1))) _ _ _ = _
    rw [stlF, replR_bare, if_neg (by rw [hr]; decide)]
    rfl
theorem stlF_is {c : Int} {l : QL} {b1 aw b : BL} {mv dr : List Int} (h : Stl c l b1 aw aw.length b mv dr) : stlF c (bareQ l) (bareB aw) (bareB b1) [] [] = (bareB b, mv, dr) := by
  rw [stlF_run h, List.drop_length]
  rfl
def cutF (c : Int) (l : QL) (b : BL) : BL × List Int × List Int := stlF c l (litF c l 12 b []).2 (litF c l 12 b []).1 [] []
theorem cutF_is {c : Int} {l : QL} {b0 b1 aw b : BL} {mv dr : List Int} (hc : Clean l b0) (h0 : 0 ≤ c) (h : Lit c l b0 b1 aw) (hno : ∀ u, c ≤ u → u < 48 → ∀ q, q < l.length → overI l b1 u q = false) (hs : Stl c l b1 aw aw.length b mv dr) : cutF c (bareQ l) (bareB b0) = (bareB b, mv, dr) := by
  have hlen := (h.clean hc h0).2.2.2
  have hfew := hc.few
  have h1 := litF_is h.bare (fun u a1 a2 q hq => by rw [overI_bare]; exact hno u a1 a2 q (by rw [len_bareQ] at hq; exact hq)) (m := 12) (by rw [len_bareB]; omega)
  unfold cutF
  rw [h1]
  exact stlF_is hs
end Go.Proofs.YtckpdfkobdgjeaaGreatDoor
namespace Go.Proofs.YtckpdfkobdgjeaaGreatDoor
open Go.RowKit
def ChTold (w w' : World) (e : Ending) (c n : Int) (tn : Nat) (l : QL) (b : BL) (q : Nat) (rs : RunL) : Prop :=
  ∃ (g k1 : Nat) (l9 : QL) (aa : Option Addr) (k9 : Nat) (b9 : BL) (mv dr : List Int) (ma : Option Addr) (mk : Nat) (da : Option Addr) (dk : Nat),
    e = .returned (.tuple #[.agg #[.int .i64 c, .int .i64 n, .slice (some ⟨g, 0, none⟩) tn k1, .slice aa (List.length b9) k9], .slice ma (List.length mv) mk, .slice da (List.length dr) dk, .int .i64 0]) ∧ StIn w' (some ⟨g, 0, none⟩) tn k1 l9 aa b9.length k9 b9 ∧ cutF c (bareQ (capL l q rs)) (bareB b) = (bareB b9, mv, dr) ∧ OwnInts w' w.heap.size (.slice ma mv.length mk) mv ∧ OwnInts w' w.heap.size (.slice da dr.length dk) dr ∧ Below w.heap.size w w'
theorem ChAns.told {w w' : World} {e : Ending} {c n : Int} {tn : Nat} {l : QL} {b : BL} {q : Nat} {rs : RunL} (h : ChAns w w' e c n tn l b q rs) (hp : planE c n l b = 0) (ht : chkT (capL l q rs) = 0) : ChTold w w' e c n tn l b q rs := by
  obtain ⟨g, k1, l9, aa, k9, b9, b0, b1, aw, mv, dr, ma, mk, da, dk, he, hs, hl, hb, hlit, hno, hstl, hm, hd, hbe⟩ := h
  have hSo := sound_of hp
  have hlen : l9.length = l.length := by
    have h1 := congrArg List.length hl
    rw [len_bareQ, len_bareQ, capL_len] at h1
    exact h1
  have hc : Clean l9 b0 := clean_cap (clean_same hSo.clean hb) (by rw [← chkT_bare, hl, chkT_bare]; exact ht) hlen
  refine ⟨g, k1, l9, aa, k9, b9, mv, dr, ma, mk, da, dk, he, hs, ?_, hm, hd, hbe⟩
  rw [← hl, ← hb]
  exact cutF_is hc hSo.c0 hlit hno hstl
end Go.Proofs.YtckpdfkobdgjeaaGreatDoor
namespace Go.Proofs.YtckpdfkobdgjeaaGreatDoor
open Go.RowKit
end Go.Proofs.YtckpdfkobdgjeaaGreatDoor
namespace Go.Proofs.YtckpdfkobdgjeaaGreatDoor
open Go.RowKit
theorem find_at {c n : Int} {l : QL} {b : BL} (h : Sound c n l b) {i : Nat} (hi : i < b.length) : findE c n l b (bk b i).id = 0 ∧ findI c n l b (bk b i).id = i := by
  have h1 := id_of h hi
  have h2 := planE_ok h
  refine ⟨?_, ?_⟩
  · unfold findE
    rw [if_pos h2, h1]
    rfl
  · unfold findI
    rw [if_pos h2, h1]
theorem find_not {c n : Int} {l : QL} {b : BL} (h : Sound c n l b) {id : Int} (hno : ∀ x ∈ b, x.id ≠ id) : findE c n l b id = 6 := by
  have h2 := planE_ok h
  have h1 : bookAt b id = none := by
    cases e : bookAt b id with
    | none => rfl
    | some i =>
      have h3 := findFrom_some e
      exfalso
      have h4 := h3.2.2.1
      simp only [beq_iff_eq] at h4
      exact hno _ (bk_mem (by omega)) h4
  unfold findE
  rw [if_pos h2, h1]
  rfl
def RoundOk (c n : Int) (l9 : QL) (b9 : BL) (mv dr : List Int) (X : Bk) : Prop :=
  (mv.count X.id = 0 ∧ dr.count X.id = 0 ∧ ∃ i : Nat, i < b9.length ∧ findE c n l9 b9 X.id = 0 ∧ findI c n l9 b9 X.id = i ∧ (bk b9 i).rq.bare = X.rq.bare ∧ (bk b9 i).bs = X.bs) ∨
  (mv.count X.id = 1 ∧ dr.count X.id = 0 ∧ ∃ i : Nat, i < b9.length ∧ findE c n l9 b9 X.id = 0 ∧ findI c n l9 b9 X.id = i ∧ (bk b9 i).rq.bare = X.rq.bare ∧ ∀ j, j < (bk b9 i).bs.length → c ≤ rN (bk b9 i).bs j) ∨
  (mv.count X.id = 0 ∧ dr.count X.id = 1 ∧ findE c n l9 b9 X.id = 6)
theorem round_ok {c n : Int} {l9 : QL} {b0 b9 : BL} {mv dr : List Int} (h : CutFacts c n l9 b0 b9 mv dr) {X Y : Bk} (hX : X ∈ b0) (hY : Y.bare = X.bare) : RoundOk c n l9 b9 mv dr Y := by
  have hid : Y.id = X.id := show Y.bare.id = X.bare.id by rw [hY]
  have hrq : Y.rq.bare = X.rq.bare := show Y.bare.rq = X.bare.rq by rw [hY]
  have hbs : Y.bs = X.bs := show Y.bare.bs = X.bare.bs by rw [hY]
  unfold RoundOk
  rw [hid, hrq, hbs]
  rcases h.each X hX with ⟨h1, h2, h3⟩ | ⟨h1, h2, Z, hZ, m1, m2, m3⟩ | ⟨h1, h2, h3⟩
  · obtain ⟨i, hi, rfl⟩ := mem_bk h3
    obtain ⟨f1, f2⟩ := find_at h.sound hi
    exact Or.inl ⟨h1, h2, i, hi, f1, f2, rfl, rfl⟩
  · obtain ⟨i, hi, rfl⟩ := mem_bk hZ
    obtain ⟨f1, f2⟩ := find_at h.sound hi
    rw [m1] at f1 f2
    exact Or.inr (Or.inl ⟨h1, h2, i, hi, f1, f2, by rw [m2], m3⟩)
  · exact Or.inr (Or.inr ⟨h1, h2, find_not h.sound h3⟩)
def ChTrue (w w' : World) (e : Ending) (c n : Int) (tn : Nat) (b : BL) : Prop :=
  ∃ (g k1 : Nat) (l9 : QL) (aa : Option Addr) (k9 : Nat) (b9 : BL) (mv dr : List Int) (ma : Option Addr) (mk : Nat) (da : Option Addr) (dk : Nat),
    e = .returned (.tuple #[.agg #[.int .i64 c, .int .i64 n, .slice (some ⟨g, 0, none⟩) tn k1, .slice aa (List.length b9) k9], .slice ma (List.length mv) mk, .slice da (List.length dr) dk, .int .i64 0]) ∧ StIn w' (some ⟨g, 0, none⟩) tn k1 l9 aa b9.length k9 b9 ∧ planE c n l9 b9 = 0 ∧ b9.length + dr.length = b.length ∧ (mv.length ≤ 12 ∧ dr.length ≤ 12 ∧ b.length ≤ 12) ∧ (∀ k, k < b.length → RoundOk c n l9 b9 mv dr (bk b k)) ∧ IntsIn w' ma mv.length mk mv ∧ IntsIn w' da dr.length dk dr ∧ Below w.heap.size w w'
theorem own_ints_is {w : World} {B : Nat} {a : Option Addr} {m k : Nat} {l : List Int} (h : OwnInts w B (.slice a m k) l) : IntsIn w a l.length k l := by
  obtain ⟨a', k', e, h1⟩ := OwnInts.parts h
  simp only [Value.slice.injEq] at e
  obtain ⟨rfl, _, rfl⟩ := e
  exact h1
theorem ChAns.true {w w' : World} {e : Ending} {c n : Int} {tn : Nat} {l : QL} {b : BL} {q : Nat} {rs : RunL} (h : ChAns w w' e c n tn l b q rs) (hp : planE c n l b = 0) (ht : chkT (capL l q rs) = 0) : ChTrue w w' e c n tn b := by
  obtain ⟨g, k1, l9, aa, k9, b9, b0, b1, aw, mv, dr, ma, mk, da, dk, he, hs, hl, hb, hlit, hno, hstl, hm, hd, hbe⟩ := h
  have hSo := sound_of hp
  have hlen : l9.length = l.length := by
    have h1 := congrArg List.length hl
    rw [len_bareQ, len_bareQ, capL_len] at h1
    exact h1
  have hc : Clean l9 b0 := clean_cap (clean_same hSo.clean hb) (by rw [← chkT_bare, hl, chkT_bare]; exact ht) hlen
  obtain ⟨u1, u2, u3⟩ := sound_up hSo
  have hbl : b0.length = b.length := bare_len hb
  have hat : ∀ i, (bk b0 i).bare = (bk b i).bare := bare_at hb
  have v1 : Up b0 := by
    unfold Up
    rw [List.pairwise_iff_getElem]
    intro i j hi hj hij
    have h1 := ids_rise hSo (j := j) (by omega) hij
    rw [← bk_is hi, ← bk_is hj, show (bk b0 i).id = (bk b0 i).bare.id from rfl, show (bk b0 j).id = (bk b0 j).bare.id from rfl, hat, hat]
    exact h1
  have v2 : ∀ x ∈ b0, 0 ≤ x.id ∧ x.id < n := by
    intro x hx
    obtain ⟨i, hi, rfl⟩ := mem_bk hx
    rw [show (bk b0 i).id = (bk b0 i).bare.id from rfl, hat]
    exact u2 (bk b i) (bk_mem (by omega))
  have v3 : ∀ x ∈ b0, c < overV x := by
    intro x hx
    obtain ⟨i, hi, rfl⟩ := mem_bk hx
    rw [← overV_bare, hat, overV_bare]
    exact u3 _ (bk_mem (by omega))
  have F := cut_facts (n := n) hc hSo.c0 hSo.c48 hSo.n0 hSo.n1 v1 v2 v3 hlit hno hstl
  exact ⟨g, k1, l9, aa, k9, b9, mv, dr, ma, mk, da, dk, he, hs, planE_ok F.sound, by have := F.len; omega, ⟨F.few.1, F.few.2, hSo.clean.few⟩, fun k hk => round_ok F (bk_mem (show k < b0.length by omega)) (hat k).symm, own_ints_is hm, own_ints_is hd, hbe⟩
end Go.Proofs.YtckpdfkobdgjeaaGreatDoor
namespace Go.Proofs.YtckpdfkobdgjeaaGreatDoor
open Go.RowKit
structure St where
  c : Int
  n : Int
  l : QL
  b : BL
theorem bareQ2 (l : QL) : bareQ (bareQ l) = bareQ l := by unfold bareQ; rw [List.map_map]; rfl
theorem bareB2 (b : BL) : bareB (bareB b) = bareB b := by unfold bareB; rw [List.map_map]; rfl
def doE (s : St) (x : Ac) : Int := if x.kind = 1 then subE s.c s.n s.l s.b x.rq else if x.kind = 2 then findE s.c s.n s.l s.b x.n else if x.kind = 3 then tickE s.c s.n s.l s.b x.n else if x.kind = 4 then chgE s.c s.n s.l s.b x.n x.cs else 7
def doS (s : St) (x : Ac) : St :=
  if x.kind = 1 then ⟨s.c, s.n + 1, s.l, s.b ++ [⟨s.n, x.rq.bare, none, 0, 0, (placeR s.l s.b x.rq).1⟩]⟩
  else if x.kind = 2 then ⟨s.c, s.n, s.l, lessB s.b ((bookAt s.b x.n).getD 0)⟩
  else if x.kind = 3 then ⟨x.n, s.n, s.l, stays s.b x.n⟩
  else ⟨s.c, s.n, bareQ (capL s.l x.n.toNat x.cs), (cutF s.c (bareQ (capL s.l x.n.toNat x.cs)) s.b).1⟩
theorem bookAt_bare (b : BL) (id : Int) : bookAt (bareB b) id = bookAt b id := by
  unfold bookAt
  rw [len_bareB]
  congr 1
  funext i
  rw [bk_bare]
  rfl
theorem seekE_bare (c n : Int) (l : QL) (b : BL) (r : Rq) : seekE c n (bareQ l) (bareB b) r.bare = seekE c n l b r := by
  unfold seekE
  rw [planE_bare, chkQR_bare]
  rfl
theorem subE_bare (c n : Int) (l : QL) (b : BL) (r : Rq) : subE c n (bareQ l) (bareB b) r.bare = subE c n l b r := by
  unfold subE
  rw [seekE_bare, len_bareB, placeR_bare]
theorem findE_bare (c n : Int) (l : QL) (b : BL) (id : Int) : findE c n (bareQ l) (bareB b) id = findE c n l b id := by
  unfold findE
  rw [planE_bare, bookAt_bare]
theorem tickE_bare (c n : Int) (l : QL) (b : BL) (t : Int) : tickE c n (bareQ l) (bareB b) t = tickE c n l b t := by
  unfold tickE
  rw [planE_bare]
theorem bareQ_capL (l : QL) (q : Nat) (rs : RunL) : bareQ (capL (bareQ l) q rs) = bareQ (capL l q rs) := bareQ_cap (bareQ2 l) q none 0 0 rs
theorem chkT_capL (l : QL) (q : Nat) (rs : RunL) : chkT (capL (bareQ l) q rs) = chkT (capL l q rs) := by rw [← chkT_bare, bareQ_capL, chkT_bare]
theorem chgE_bare (c n : Int) (l : QL) (b : BL) (q : Int) (rs : RunL) : chgE c n (bareQ l) (bareB b) q rs = chgE c n l b q rs := by
  unfold chgE
  rw [planE_bare, len_bareQ, chkT_capL]
theorem doE_bare (c n : Int) (l : QL) (b : BL) (x : Ac) : doE ⟨c, n, bareQ l, bareB b⟩ x.bare = doE ⟨c, n, l, b⟩ x := by
  unfold doE
  show (if x.kind = 1 then subE c n (bareQ l) (bareB b) x.rq.bare else if x.kind = 2 then findE c n (bareQ l) (bareB b) x.n else if x.kind = 3 then tickE c n (bareQ l) (bareB b) x.n else if x.kind = 4 then chgE c n (bareQ l) (bareB b) x.n x.cs else 7) = _
  rw [subE_bare, findE_bare, tickE_bare, chgE_bare]
theorem overQ_no {l : QL} {b : BL} {t : Int} : ∀ {n q : Nat}, overQ l b t n q = none → ∀ i, q ≤ i → i < q + n → overI l b t i = false
  | 0, q, _, i, h1, h2 => by omega
  | n + 1, q, h, i, h1, h2 => by
    rw [overQ] at h
    by_cases e : overI l b t q = true
    · rw [if_pos e] at h; cases h
    · rw [if_neg e] at h
      by_cases e2 : i = q
      · subst e2; simpa using e
      · exact overQ_no h i (by omega) (by omega)
theorem overQ_yes {l : QL} {b : BL} {t : Int} : ∀ {n q k : Nat}, overQ l b t n q = some k → q ≤ k ∧ k < q + n ∧ overI l b t k = true ∧ ∀ i, q ≤ i → i < k → overI l b t i = false
  | 0, q, k, h => by cases h
  | n + 1, q, k, h => by
    rw [overQ] at h
    by_cases e : overI l b t q = true
    · rw [if_pos e] at h
      cases h
      exact ⟨Nat.le_refl _, by omega, e, fun i h1 h2 => by omega⟩
    · rw [if_neg e] at h
      obtain ⟨a1, a2, a3, a4⟩ := overQ_yes h
      refine ⟨by omega, by omega, a3, fun i h1 h2 => ?_⟩
      by_cases e2 : i = q
      · subst e2; simpa using e
      · exact a4 i (by omega) h2
theorem overT_no {l : QL} {b : BL} : ∀ {n : Nat} {t : Int}, overT l b n t = none → ∀ u, t ≤ u → u < t + n → ∀ i, i < l.length → overI l b u i = false
  | 0, t, _, u, h1, h2, i, _ => by omega
  | n + 1, t, h, u, h1, h2, i, hi => by
    rw [overT] at h
    cases hq : overQ l b t l.length 0 with
    | some q => rw [hq] at h; cases h
    | none =>
      rw [hq] at h
      by_cases e : u = t
      · subst e; exact overQ_no hq i (Nat.zero_le _) (by omega)
      · exact overT_no h u (by omega) (by omega) i hi
theorem overT_yes {l : QL} {b : BL} : ∀ {n : Nat} {t s : Int} {k : Nat}, overT l b n t = some (s, k) → t ≤ s ∧ s < t + n ∧ k < l.length ∧ overI l b s k = true ∧ (∀ i, i < k → overI l b s i = false) ∧ ∀ u, t ≤ u → u < s → ∀ i, i < l.length → overI l b u i = false
  | 0, t, s, k, h => by cases h
  | n + 1, t, s, k, h => by
    rw [overT] at h
    cases hq : overQ l b t l.length 0 with
    | some q =>
      rw [hq] at h
      cases h
      obtain ⟨_, a2, a3, a4⟩ := overQ_yes hq
      exact ⟨Int.le_refl _, by omega, by omega, a3, fun i hi => a4 i (Nat.zero_le _) hi, fun u h1 h2 => by omega⟩
    | none =>
      rw [hq] at h
      obtain ⟨a1, a2, a3, a4, a5, a6⟩ := overT_yes h
      refine ⟨by omega, by omega, a3, a4, a5, fun u h1 h2 i hi => ?_⟩
      by_cases e : u = t
      · subst e; exact overQ_no hq i (Nat.zero_le _) (by omega)
      · exact a6 u (by omega) h2 i hi
theorem lit_all {c : Int} {l : QL} {b0 : BL} (hc : Clean l b0) (h0 : 0 ≤ c) (h1 : c ≤ 48) : ∀ (m : Nat) {b aw : BL}, Lit c l b0 b aw → b.length = m → ∃ b1 aw1, Lit c l b0 b1 aw1 ∧ ∀ u, c ≤ u → u < 48 → ∀ q, q < l.length → overI l b1 u q = false := by
  intro m
  induction m with
  | zero =>
    intro b aw h hb
    refine ⟨b, aw, h, fun u a1 a2 q hq => ?_⟩
    have hb0 : b = [] := List.length_eq_zero_iff.1 hb
    subst hb0
    exact over_nil (h.clean hc h0).1 hq (by omega) a2
  | succ m ih =>
    intro b aw h hb
    cases ho : overT l b (48 - c).toNat c with
    | none => exact ⟨b, aw, h, fun u a1 a2 q hq => overT_no ho u a1 (by omega) q hq⟩
    | some p =>
      obtain ⟨t, q⟩ := p
      obtain ⟨a1, a2, a3, a4, a5, a6⟩ := overT_yes ho
      have hs := Lit.step h (Or.inr ⟨rfl, a1, by omega, q, a3, rfl, a4, a5, a6⟩)
      refine ih hs ?_
      have e1 := (h.clean hc h0).2.2.2
      have e2 := (hs.clean hc h0).2.2.2
      rw [putB_len] at e2
      omega
theorem stl_all (c : Int) (l : QL) (b1 aw : BL) : ∀ j, j ≤ aw.length → ∃ b mv dr, Stl c l b1 aw j b mv dr
  | 0, _ => ⟨_, _, _, Stl.start⟩
  | j + 1, h => by
    obtain ⟨b, mv, dr, hs⟩ := stl_all c l b1 aw j (by omega)
    by_cases hr : (replR c l b (bk aw j)).2 = true
    · exact ⟨_, _, _, Stl.moved (fa := none) (fm := 0) (fc := 0) hs (by omega) hr⟩
    · exact ⟨_, _, _, Stl.dropped hs (by omega) (by simpa using hr)⟩
theorem chg_ok {c n : Int} {l : QL} {b : BL} {q : Int} {rs : RunL} (h : chgE c n l b q rs = 0) : planE c n l b = 0 ∧ 0 ≤ q ∧ q < l.length ∧ chkT (capL l q.toNat rs) = 0 := by
  unfold chgE at h
  by_cases h1 : planE c n l b = 0
  · rw [if_pos h1] at h
    by_cases h2 : 0 ≤ q ∧ q < l.length
    · rw [if_pos h2] at h; exact ⟨h1, h2.1, h2.2, h⟩
    · rw [if_neg h2] at h; omega
  · rw [if_neg h1] at h; exact absurd h h1
theorem cutF_right {c n : Int} {l : QL} {b : BL} {q : Int} {rs : RunL} (h : chgE c n l b q rs = 0) : planE c n (bareQ (capL l q.toNat rs)) (cutF c (bareQ (capL l q.toNat rs)) (bareB b)).1 = 0 := by
  obtain ⟨hp, q0, q1, ht⟩ := chg_ok h
  have hSo := sound_of hp
  have hc : Clean (capL l q.toNat rs) b := clean_cap hSo.clean ht (capL_len ..)
  obtain ⟨u1, u2, u3⟩ := sound_up hSo
  obtain ⟨b1, aw, hl, hno⟩ := lit_all hc hSo.c0 hSo.c48 b.length Lit.start rfl
  obtain ⟨b9, mv, dr, hs⟩ := stl_all c (capL l q.toNat rs) b1 aw aw.length (Nat.le_refl _)
  have F := cut_facts (n := n) hc hSo.c0 hSo.c48 hSo.n0 hSo.n1 u1 u2 u3 hl hno hs
  rw [cutF_is hc hSo.c0 hl hno hs, planE_bare]
  exact planE_ok F.sound
theorem bookAt_ok {c n : Int} {l : QL} {b : BL} {id : Int} (h : findE c n l b id = 0) : planE c n l b = 0 ∧ ∃ i, bookAt b id = some i ∧ i < b.length := by
  unfold findE at h
  by_cases hp : planE c n l b = 0
  · rw [if_pos hp] at h
    cases hi : bookAt b id with
    | none => rw [hi] at h; simp at h
    | some i => exact ⟨hp, i, rfl, by have := (findFrom_some hi).2.1; omega⟩
  · rw [if_neg hp] at h; exact absurd h hp
theorem bareB_one (b : BL) (x : Bk) : bareB (b ++ [x]) = bareB b ++ [x.bare] := by unfold bareB; rw [List.map_append]; rfl
theorem doS_right {s : St} {x : Ac} (hb : bareB s.b = s.b) (h : doE s x = 0) : planE (doS s x).c (doS s x).n (doS s x).l (doS s x).b = 0 := by
  obtain ⟨c, n, l, b⟩ := s
  simp only at hb
  unfold doE at h
  unfold doS
  by_cases k1 : x.kind = 1
  · rw [if_pos k1] at h
    rw [if_pos k1]
    simp only at h ⊢
    rw [← planE_ok (booked_sound h)]
    refine planE_same rfl ?_
    rw [bareB_one, bareB_one]
    rfl
  rw [if_neg k1] at h
  rw [if_neg k1]
  by_cases k2 : x.kind = 2
  · rw [if_pos k2] at h
    rw [if_pos k2]
    simp only at h ⊢
    obtain ⟨hp, i, hi, hlt⟩ := bookAt_ok h
    rw [hi]
    exact planE_ok (without_sound (sound_of hp) hlt)
  rw [if_neg k2] at h
  rw [if_neg k2]
  by_cases k3 : x.kind = 3
  · rw [if_pos k3] at h
    rw [if_pos k3]
    exact planE_ok (tick_sound h)
  rw [if_neg k3] at h
  rw [if_neg k3]
  by_cases k4 : x.kind = 4
  · rw [if_pos k4] at h
    simp only at h ⊢
    have := cutF_right h
    rw [hb] at this
    exact this
  · rw [if_neg k4] at h; omega
theorem doS_bare {s : St} {x : Ac} (hl : bareQ s.l = s.l) (hb : bareB s.b = s.b) (h : doE s x = 0) : bareQ (doS s x).l = (doS s x).l ∧ bareB (doS s x).b = (doS s x).b := by
  obtain ⟨c, n, l, b⟩ := s
  simp only at hl hb
  unfold doE at h
  unfold doS
  by_cases k1 : x.kind = 1
  · rw [if_pos k1]
    refine ⟨hl, ?_⟩
    simp only
    rw [bareB_one, hb]
    rfl
  rw [if_neg k1] at h
  rw [if_neg k1]
  by_cases k2 : x.kind = 2
  · rw [if_pos k2]
    refine ⟨hl, ?_⟩
    simp only
    rw [lessB_bare, hb]
  rw [if_neg k2] at h
  rw [if_neg k2]
  by_cases k3 : x.kind = 3
  · rw [if_pos k3]
    refine ⟨hl, ?_⟩
    simp only
    rw [stays_bare, hb]
  rw [if_neg k3] at h
  rw [if_neg k3]
  by_cases k4 : x.kind = 4
  · rw [if_pos k4] at h
    refine ⟨bareQ2 _, ?_⟩
    simp only at h ⊢
    obtain ⟨hp, q0, q1, ht⟩ := chg_ok h
    have hSo := sound_of hp
    have hc : Clean (capL l x.n.toNat x.cs) b := clean_cap hSo.clean ht (capL_len ..)
    obtain ⟨b1, aw, hl', hno⟩ := lit_all hc hSo.c0 hSo.c48 b.length Lit.start rfl
    obtain ⟨b9, mv, dr, hs⟩ := stl_all c (capL l x.n.toNat x.cs) b1 aw aw.length (Nat.le_refl _)
    have e := cutF_is hc hSo.c0 hl' hno hs
    rw [hb] at e
    rw [e]
    exact bareB2 _
  · rw [if_neg k4] at h; omega
def doneS (s : St) (x : Ac) : St := if doE s x = 0 then doS s x else s
def recS (s : St) (l : List Ac) : St := l.foldl doneS s
theorem recS_snoc (s : St) (l : List Ac) (x : Ac) : recS s (l ++ [x]) = doneS (recS s l) x := by unfold recS; rw [List.foldl_append]; rfl
structure GoodSt (s : St) : Prop where
  q : bareQ s.l = s.l
  b : bareB s.b = s.b
  e : planE s.c s.n s.l s.b = 0
theorem GoodSt.done {s : St} (h : GoodSt s) (x : Ac) : GoodSt (doneS s x) := by
  unfold doneS
  by_cases e : doE s x = 0
  · rw [if_pos e]
    have := doS_bare h.q h.b e
    exact ⟨this.1, this.2, doS_right h.b e⟩
  · rw [if_neg e]; exact h
end Go.Proofs.YtckpdfkobdgjeaaGreatDoor
namespace Go.Proofs.YtckpdfkobdgjeaaGreatDoor
open Go.RowKit
def Out (w : World) (B : Nat) (E : Int) (s : St) (c n : Int) (ta : Option Addr) (tn tc : Nat) (ba : Option Addr) (bn bc : Nat) : Prop :=
  (E ≠ 0 ∧ c = 0 ∧ n = 0 ∧ ta = none ∧ tn = 0 ∧ tc = 0 ∧ ba = none ∧ bn = 0 ∧ bc = 0) ∨ (E = 0 ∧ ∃ l b, StIn w ta tn tc l ba bn bc b ∧ c = s.c ∧ n = s.n ∧ bareQ l = s.l ∧ bareB b = s.b ∧ NewSt B ta tn l ba bn b)
theorem Out.later {w w' : World} {B : Nat} {E : Int} {s : St} {c n : Int} {ta : Option Addr} {tn tc : Nat} {ba : Option Addr} {bn bc : Nat} (h : Out w B E s c n ta tn tc ba bn bc) (hb : Below w.heap.size w w') : Out w' B E s c n ta tn tc ba bn bc := by
  rcases h with h | ⟨e, l, b, hs, r⟩
  · exact Or.inl h
  · exact Or.inr ⟨e, l, b, hs.later hb, r⟩
theorem QsIn.keep {w w' : World} {a : Option Addr} {n cap : Nat} {l : QL} (h : QsIn w a n cap l) (h0 : 0 < n → ∀ g off, a = some ⟨g, off, none⟩ → w'.heap[g]? = w.heap[g]?) (h1 : ∀ i, i < n → 0 < (qu l i).cn → ∀ g off, (qu l i).ca = some ⟨g, off, none⟩ → w'.heap[g]? = w.heap[g]?) : QsIn w' a n cap l := by
  refine ⟨h.len, h.le, h.capb, fun hp => ?_, fun i hi => (h.caps i hi).of_away (h1 i hi), h.names⟩
  obtain ⟨b, off, ha, hc⟩ := h.cells hp
  have e := h0 hp b off ha
  exact ⟨b, off, ha, fun i hi => ⟨(World.cell?_of_block (w := w) (a := ⟨b, off + i * 3, none⟩) e).trans (hc i hi).1, (World.cell?_of_block (w := w) (a := ⟨b, off + i * 3 + 1, none⟩) e).trans (hc i hi).2.1, (World.cell?_of_block (w := w) (a := ⟨b, off + i * 3 + 2, none⟩) e).trans (hc i hi).2.2⟩⟩
theorem BksIn.keep {w w' : World} {a : Option Addr} {n cap : Nat} {l : BL} (h : BksIn w a n cap l) (h0 : 0 < n → ∀ g off, a = some ⟨g, off, none⟩ → w'.heap[g]? = w.heap[g]?) (h1 : ∀ i, i < n → 0 < (bk l i).rq.pn → ∀ g off, (bk l i).rq.pa = some ⟨g, off, none⟩ → w'.heap[g]? = w.heap[g]?) (h2 : ∀ i, i < n → 0 < (bk l i).bn → ∀ g off, (bk l i).ba = some ⟨g, off, none⟩ → w'.heap[g]? = w.heap[g]?) : BksIn w' a n cap l := by
  refine ⟨h.len, h.le, h.capb, fun hp => ?_, fun i hi => RunsIn.of_away (h.rqs i hi) (h1 i hi), fun i hi => (h.bites i hi).of_away (h2 i hi)⟩
  obtain ⟨b, off, ha, hc⟩ := h.cells hp
  have e := h0 hp b off ha
  refine ⟨b, off, ha, fun i hi => ?_⟩
  obtain ⟨c0, c1, c2, c3, c4, c5, c6⟩ := hc i hi
  exact ⟨(World.cell?_of_block (w := w) (a := ⟨b, off + i * 7, none⟩) e).trans c0, (World.cell?_of_block (w := w) (a := ⟨b, off + i * 7 + 1, none⟩) e).trans c1, (World.cell?_of_block (w := w) (a := ⟨b, off + i * 7 + 2, none⟩) e).trans c2, (World.cell?_of_block (w := w) (a := ⟨b, off + i * 7 + 3, none⟩) e).trans c3, (World.cell?_of_block (w := w) (a := ⟨b, off + i * 7 + 4, none⟩) e).trans c4, (World.cell?_of_block (w := w) (a := ⟨b, off + i * 7 + 5, none⟩) e).trans c5, (World.cell?_of_block (w := w) (a := ⟨b, off + i * 7 + 6, none⟩) e).trans c6⟩
theorem StIn.keep {w w' : World} {B : Nat} {ta : Option Addr} {tn tc : Nat} {l : QL} {ba : Option Addr} {bn bc : Nat} {b : BL} (h : StIn w ta tn tc l ba bn bc b) (hN : NewSt B ta tn l ba bn b) (hk : ∀ k, B ≤ k → w'.heap[k]? = w.heap[k]?) : StIn w' ta tn tc l ba bn bc b :=
  ⟨h.1.keep (fun h0 g off e => hk g (hN.qs h0 g off e)) (fun i hi h0 g off e => hk g (hN.caps i hi h0 g off e)), h.2.keep (fun h0 g off e => hk g (hN.bks h0 g off e)) (fun i hi h0 g off e => hk g (hN.ps i hi h0 g off e)) (fun i hi h0 g off e => hk g (hN.bs i hi h0 g off e))⟩
theorem Out.keep {w w' : World} {B : Nat} {E : Int} {s : St} {c n : Int} {ta : Option Addr} {tn tc : Nat} {ba : Option Addr} {bn bc : Nat} (h : Out w B E s c n ta tn tc ba bn bc) (hk : ∀ k, B ≤ k → w'.heap[k]? = w.heap[k]?) : Out w' B E s c n ta tn tc ba bn bc := by
  rcases h with h | ⟨e, l, b, hs, r1, r2, r3, r4, hN⟩
  · exact Or.inl h
  · exact Or.inr ⟨e, l, b, hs.keep hN hk, r1, r2, r3, r4, hN⟩
theorem Out.mono {w : World} {B B' : Nat} {E : Int} {s : St} {c n : Int} {ta : Option Addr} {tn tc : Nat} {ba : Option Addr} {bn bc : Nat} (h : Out w B E s c n ta tn tc ba bn bc) (hB : B' ≤ B) : Out w B' E s c n ta tn tc ba bn bc := by
  rcases h with h | ⟨e, l, b, hs, r1, r2, r3, r4, hN⟩
  · exact Or.inl h
  · exact Or.inr ⟨e, l, b, hs, r1, r2, r3, r4, hN.mono hB⟩
theorem Submit_out (w : World) (c n : Int) (ta : Option Addr) (tn tc : Nat) (l : QL) (ba : Option Addr) (bn bc : Nat) (b : BL) (h : StIn w ta tn tc l ba bn bc b) (r : Rq) (hr : RqIn w r) :
    Calls Tryz.prog 52 #[.agg #[.int .i64 c, .int .i64 n, .slice ta tn tc, .slice ba bn bc], .agg #[.int .i64 r.queue, .int .i64 r.fr, .int .i64 r.un, .int .i64 r.kind, .slice r.pa r.pn r.pc]] w fun e w' => ∃ c' n' ta' tn' tc' ba' bn' bc' i, e = .returned (.tuple #[.agg #[.int .i64 c', .int .i64 n', .slice ta' tn' tc', .slice ba' bn' bc'], .int .i64 i, .int .i64 (subE c n l b r)]) ∧ Out w' w.heap.size (subE c n l b r) ⟨c, n + 1, bareQ l, bareB b ++ [⟨n, r.bare, none, 0, 0, (placeR l b r).1⟩]⟩ c' n' ta' tn' tc' ba' bn' bc' ∧ Below w.heap.size w w' := by
  have hbl := h.2.len
  by_cases h1 : seekE c n l b r = 0
  · by_cases h2 : 12 ≤ bn ∨ 1048576 ≤ n
    · have e : subE c n l b r = 2 := by unfold subE; rw [if_pos h1, if_pos (by omega)]
      refine (Submit_many w c n ta tn tc l ba bn bc b h r hr h1 h2).mono ?_
      rintro _ w' ⟨rfl, hb⟩
      exact ⟨_, _, _, _, _, _, _, _, _, by rw [e], Or.inl ⟨by rw [e]; decide, rfl, rfl, rfl, rfl, rfl, rfl, rfl, rfl⟩, hb⟩
    · by_cases h3 : (placeR l b r).2 = true
      · have e : subE c n l b r = 0 := by unfold subE; rw [if_pos h1, if_neg (by omega), if_pos h3]
        refine (Submit_new w c n ta tn tc l ba bn bc b h r hr e).mono ?_
        rintro _ w' ⟨g, k1, l', g9, k9, b9, rfl, hs, hl, hb9, hb, hnew⟩
        exact ⟨_, _, _, _, _, _, _, _, _, by rw [e], Or.inr ⟨e, l', b9, hs, rfl, rfl, hl, by rw [hb9, bareB_one]; rfl, hnew⟩, hb⟩
      · have e : subE c n l b r = 8 := by unfold subE; rw [if_pos h1, if_neg (by omega), if_neg h3]
        refine (Submit_full w c n ta tn tc l ba bn bc b h r hr h1 (by omega) (by omega) (by simpa using h3)).mono ?_
        rintro _ w' ⟨rfl, hb⟩
        exact ⟨_, _, _, _, _, _, _, _, _, by rw [e], Or.inl ⟨by rw [e]; decide, rfl, rfl, rfl, rfl, rfl, rfl, rfl, rfl⟩, hb⟩
  · have e : subE c n l b r = seekE c n l b r := by unfold subE; rw [if_neg h1]
    refine (Submit_wrong w c n ta tn tc l ba bn bc b h r hr h1).mono ?_
    rintro _ w' ⟨rfl, hb⟩
    exact ⟨_, _, _, _, _, _, _, _, _, by rw [e], Or.inl ⟨by rw [e]; exact h1, rfl, rfl, rfl, rfl, rfl, rfl, rfl, rfl⟩, hb⟩
theorem Tick_out (w : World) (c n : Int) (ta : Option Addr) (tn tc : Nat) (l : QL) (ba : Option Addr) (bn bc : Nat) (b : BL) (h : StIn w ta tn tc l ba bn bc b) (t : Int) :
    Calls Tryz.prog 54 #[.agg #[.int .i64 c, .int .i64 n, .slice ta tn tc, .slice ba bn bc], .int .i64 t] w fun e w' => ∃ c' n' ta' tn' tc' ba' bn' bc' i, e = .returned (.tuple #[.agg #[.int .i64 c', .int .i64 n', .slice ta' tn' tc', .slice ba' bn' bc'], .int .i64 i, .int .i64 (tickE c n l b t)]) ∧ Out w' w.heap.size (tickE c n l b t) ⟨t, n, bareQ l, stays (bareB b) t⟩ c' n' ta' tn' tc' ba' bn' bc' ∧ Below w.heap.size w w' := by
  by_cases e : tickE c n l b t = 0
  · refine (Tick_new w c n ta tn tc l ba bn bc b h t e).mono ?_
    rintro _ w' ⟨v, rfl, g, k1, l', aa, k9, b9, rfl, hs, hl, hb9, hb, hnew⟩
    exact ⟨_, _, _, _, _, _, _, _, _, by rw [e], Or.inr ⟨e, l', b9, hs, rfl, rfl, hl, by rw [hb9]; exact stays_bare b t, hnew⟩, hb⟩
  · refine (Tick_wrong w c n ta tn tc l ba bn bc b h t e).mono ?_
    rintro _ w' ⟨rfl, hb⟩
    exact ⟨_, _, _, _, _, _, _, _, _, rfl, Or.inl ⟨e, rfl, rfl, rfl, rfl, rfl, rfl, rfl, rfl⟩, hb⟩
end Go.Proofs.YtckpdfkobdgjeaaGreatDoor
namespace Go.Proofs.YtckpdfkobdgjeaaGreatDoor
open Go.RowKit
theorem do_boxes (w : World) (a b c d e0 e1 e2 e3 e4 e5 e6 e7 : Value) {W : World} (hW : W = ((w.alloc (.cells #[a, b, c, d] 40)).alloc (.cells #[e0, e1, e2, e3, e4, e5, e6, e7] 27)).alloc (.cells #[.int .i64 0, .int .i64 0, .slice none 0 0, .slice none 0 0] 40)) :
    StBox W w.heap.size a b c d ∧ AcBox W (w.heap.size + 1) e0 e1 e2 e3 e4 e5 e6 e7 ∧ StBox W (w.heap.size + 2) (.int .i64 0) (.int .i64 0) (.slice none 0 0) (.slice none 0 0) ∧ Below w.heap.size w W ∧ W.heap.size = w.heap.size + 3 := by
  obtain ⟨W1, h1⟩ : ∃ W1, W1 = w.alloc (.cells #[a, b, c, d] 40) := ⟨_, rfl⟩
  obtain ⟨W2, h2⟩ : ∃ W2, W2 = W1.alloc (.cells #[e0, e1, e2, e3, e4, e5, e6, e7] 27) := ⟨_, rfl⟩
  rw [← h1, ← h2] at hW
  have s1 : W1.heap.size = w.heap.size + 1 := by rw [h1]; simp
  have s2 : W2.heap.size = w.heap.size + 2 := by rw [h2]; simp [s1]
  have b1 : Below w.heap.size w W1 := by rw [h1]; exact (Below.refl _ _).alloc (Nat.le_refl _) _
  have b2 : Below W1.heap.size W1 W2 := by rw [h2]; exact (Below.refl _ _).alloc (Nat.le_refl _) _
  have b3 : Below W2.heap.size W2 W := by rw [hW]; exact (Below.refl _ _).alloc (Nat.le_refl _) _
  have x1 : StBox W1 w.heap.size a b c d := by rw [h1]; exact StBox.new w a b c d
  have x2 : AcBox W2 (w.heap.size + 1) e0 e1 e2 e3 e4 e5 e6 e7 := by rw [h2, ← s1]; exact heap_alloc_new W1 _
  have x3 : StBox W (w.heap.size + 2) (.int .i64 0) (.int .i64 0) (.slice none 0 0) (.slice none 0 0) := by rw [hW, ← s2]; exact StBox.new W2 _ _ _ _
  exact ⟨(x1.later b2).later b3, (b3.block _ (by omega)).trans x2, x3, below_from (below_from b1 b2) b3, by rw [hW]; simp [s2]⟩
set_option maxRecDepth 100000 in
set_option maxHeartbeats 4000000 in
theorem Do_k1 (w : World) (c n : Int) (ta : Option Addr) (tn tc : Nat) (l : QL) (ba : Option Addr) (bn bc : Nat) (b : BL) (h : StIn w ta tn tc l ba bn bc b) (x : Ac) (hx : AcIn w x) (_hcn : x.cn ≤ 1048576) (k1 : x.kind = 1) :
    Calls Tryz.prog 21 #[.agg #[.int .i64 c, .int .i64 n, .slice ta tn tc, .slice ba bn bc], .agg #[.int .i64 x.kind, .int .i64 x.n, .int .i64 x.rq.queue, .int .i64 x.rq.fr, .int .i64 x.rq.un, .int .i64 x.rq.kind, .slice x.rq.pa x.rq.pn x.rq.pc, .slice x.ca x.cn x.cc]] w fun e w' => ∃ c' n' ta' tn' tc' ba' bn' bc', e = .returned (.tuple #[.agg #[.int .i64 c', .int .i64 n', .slice ta' tn' tc', .slice ba' bn' bc'], .int .i64 (doE ⟨c, n, l, b⟩ x)]) ∧ Out w' w.heap.size (doE ⟨c, n, l, b⟩ x) (doS ⟨c, n, bareQ l, bareB b⟩ x.bare) c' n' ta' tn' tc' ba' bn' bc' ∧ Below w.heap.size w w' := by
  obtain ⟨kd, nn, ⟨q, f, u, rk, pa, pn, pc, ps⟩, ca, cn, cc, cs⟩ := x
  have hp : RunsIn w pa pn pc ps := hx.1
  have hc : RunsIn w ca cn cc cs := hx.2
  simp only at k1
  simp only
  obtain ⟨S, hS⟩ : ∃ S, w.heap.size = S := ⟨_, rfl⟩
  obtain ⟨W1, hW1⟩ : ∃ W, W = ((w.alloc (.cells #[.int .i64 c, .int .i64 n, .slice ta tn tc, .slice ba bn bc] 40)).alloc (.cells #[.int .i64 kd, .int .i64 nn, .int .i64 q, .int .i64 f, .int .i64 u, .int .i64 rk, .slice pa pn pc, .slice ca cn cc] 27)).alloc (.cells #[.int .i64 0, .int .i64 0, .slice none 0 0, .slice none 0 0] 40) := ⟨_, rfl⟩
  obtain ⟨x1, x2, x3, hb0, hsz⟩ := do_boxes w _ _ _ _ _ _ _ _ _ _ _ _ hW1
  rw [hS] at x1 x2 x3 hsz
  obtain ⟨c0, c1, c2, c3⟩ := x1.cells
  obtain ⟨a0, a1, a2, a3, a4, a5, a6, a7⟩ := x2.cells
  have X3 := hid x3
  have HB0 := hid hb0
  have HW1 := hid hW1
  have HS := hid hS
  have HSZ := hid hsz
  subst k1
  have K := hid (Submit_out W1 c n ta tn tc l ba bn bc b (h.later hb0) ⟨q, f, u, rk, pa, pn, pc, ps⟩ (hp.later hb0))
  have hEq : doE ⟨c, n, l, b⟩ ⟨1, nn, ⟨q, f, u, rk, pa, pn, pc, ps⟩, ca, cn, cc, cs⟩ = subE c n l b ⟨q, f, u, rk, pa, pn, pc, ps⟩ := by unfold doE; simp only [if_pos]
  have hSq : doS ⟨c, n, bareQ l, bareB b⟩ (Ac.bare ⟨1, nn, ⟨q, f, u, rk, pa, pn, pc, ps⟩, ca, cn, cc, cs⟩) = ⟨c, n + 1, bareQ l, bareB b ++ [⟨n, Rq.bare ⟨q, f, u, rk, pa, pn, pc, ps⟩, none, 0, 0, (placeR l b ⟨q, f, u, rk, pa, pn, pc, ps⟩).1⟩]⟩ := by
    unfold doS
    rw [if_pos (show (Ac.bare ⟨1, nn, ⟨q, f, u, rk, pa, pn, pc, ps⟩, ca, cn, cc, cs⟩).kind = 1 from rfl)]
    simp only
    rw [show (Ac.bare ⟨1, nn, ⟨q, f, u, rk, pa, pn, pc, ps⟩, ca, cn, cc, cs⟩).rq = Rq.bare ⟨q, f, u, rk, pa, pn, pc, ps⟩ from rfl, placeR_bare]
    rfl
  rw [hEq, hSq]
  clear hW1 x1 x2 x3 hb0 h hsz hx hp hc hEq hSq
  rw [HW1.out] at c0 c1 c2 c3 a0 a1 a2 a3 a4 a5 a6 a7
  obtain ⟨E, hE⟩ : ∃ E, subE c n l b ⟨q, f, u, rk, pa, pn, pc, ps⟩ = E := ⟨_, rfl⟩
  rw [hE] at K ⊢
  obtain ⟨ST, hST⟩ : ∃ ST : St, (⟨c, n + 1, bareQ l, bareB b ++ [⟨n, Rq.bare ⟨q, f, u, rk, pa, pn, pc, ps⟩, none, 0, 0, (placeR l b ⟨q, f, u, rk, pa, pn, pc, ps⟩).1⟩]⟩ : St) = ST := ⟨_, rfl⟩
  rw [hST] at K ⊢
  clear hE hST
  go_enter Tryz.func21, Tryz.ntmps21
  go_wp2_with fail
  rw [← HW1.out]
  refine K.out.mono ?_
  rintro e w1 ⟨c', n', ta', tn', tc', ba', bn', bc', i', rfl, hO, hb⟩
  have hs1 := hb.size
  have hz := HSZ.out
  have HB1 := hid (below_from HB0.out hb)
  have y3 := X3.out.later hb
  obtain ⟨W4, hW4⟩ : ∃ W, W = w1.alloc (.cells #[.int .i64 c', .int .i64 n', .slice ta' tn' tc', .slice ba' bn' bc'] 40) := ⟨_, rfl⟩
  have b4 : Below w1.heap.size w1 W4 := by rw [hW4]; exact (Below.refl _ _).alloc (Nat.le_refl _) _
  have z4 : StBox W4 w1.heap.size (.int .i64 c') (.int .i64 n') (.slice ta' tn' tc') (.slice ba' bn' bc') := by rw [hW4]; exact StBox.new w1 _ _ _ _
  have HO := hid (hO.later b4)
  have HB4 := hid (below_from HB1.out b4)
  have y4 := y3.later b4
  have s4 := b4.size
  obtain ⟨z0, z1, z2, z3⟩ := z4.cells
  obtain ⟨q0, q1, q2, q3⟩ := y4.cells
  have qf : ∀ k, W4.frozen? ⟨S + 1 + 1, k, none⟩ = false := fun k => frozen_of_row W4 (S + 2) k _ _ y4
  have p0 : W4.cell? ⟨S + 1 + 1, 0, none⟩ = some (.int .i64 0) := q0
  have p1 : W4.cell? ⟨S + 1 + 1, 1, none⟩ = some (.int .i64 0) := q1
  have p2 : W4.cell? ⟨S + 1 + 1, 2, none⟩ = some (.slice none 0 0) := q2
  have p3 : W4.cell? ⟨S + 1 + 1, 3, none⟩ = some (.slice none 0 0) := q3
  have Y4 := hid y4
  clear y3 y4 hO hb c0 c1 c2 c3 a0 a1 a2 a3 a4 a5 a6 a7 q0 q1 q2 q3
  go_upto_region 4 with fail
  rw [← hW4]
  clear hW4 b4 z4
  go_wp2_with fail
  have hst := four_stores W4 (S + 2) 40 _ _ _ _ (.int .i64 c') (.int .i64 n') (.slice ta' tn' tc') (.slice ba' bn' bc') Y4.out
  have h4 : w.heap.size ≤ S + 2 := by omega
  refine bodyPost_ret (v := .tuple #[.agg #[.int .i64 c', .int .i64 n', .slice ta' tn' tc', .slice ba' bn' bc'], .int .i64 E]) (results_row_tmp Tryz.results21 _ _ (S + 2) 40 #[.int .i64 c', .int .i64 n', .slice ta' tn' tc', .slice ba' bn' bc'] (0, 0) _ rfl hst.1 Tryz.underlying40 rfl (by kernel_rfl)) rfl ⟨c', n', ta', tn', tc', ba', bn', bc', rfl, ?_, ?_⟩
  · exact (HO.out.keep (fun k hk => hst.2 k (by omega))).mono (by omega)
  · exact ((((HB4.out.setCell (p := ⟨S + 2, 0, none⟩) h4 _).setCell (p := ⟨S + 2, 1, none⟩) h4 _).setCell (p := ⟨S + 2, 2, none⟩) h4 _).setCell (p := ⟨S + 2, 3, none⟩) h4 _)
set_option maxRecDepth 100000 in
set_option maxHeartbeats 4000000 in
theorem Do_k3 (w : World) (c n : Int) (ta : Option Addr) (tn tc : Nat) (l : QL) (ba : Option Addr) (bn bc : Nat) (b : BL) (h : StIn w ta tn tc l ba bn bc b) (x : Ac) (hx : AcIn w x) (_hcn : x.cn ≤ 1048576) (k3 : x.kind = 3) :
    Calls Tryz.prog 21 #[.agg #[.int .i64 c, .int .i64 n, .slice ta tn tc, .slice ba bn bc], .agg #[.int .i64 x.kind, .int .i64 x.n, .int .i64 x.rq.queue, .int .i64 x.rq.fr, .int .i64 x.rq.un, .int .i64 x.rq.kind, .slice x.rq.pa x.rq.pn x.rq.pc, .slice x.ca x.cn x.cc]] w fun e w' => ∃ c' n' ta' tn' tc' ba' bn' bc', e = .returned (.tuple #[.agg #[.int .i64 c', .int .i64 n', .slice ta' tn' tc', .slice ba' bn' bc'], .int .i64 (doE ⟨c, n, l, b⟩ x)]) ∧ Out w' w.heap.size (doE ⟨c, n, l, b⟩ x) (doS ⟨c, n, bareQ l, bareB b⟩ x.bare) c' n' ta' tn' tc' ba' bn' bc' ∧ Below w.heap.size w w' := by
  obtain ⟨kd, nn, ⟨q, f, u, rk, pa, pn, pc, ps⟩, ca, cn, cc, cs⟩ := x
  have hp : RunsIn w pa pn pc ps := hx.1
  have hc : RunsIn w ca cn cc cs := hx.2
  simp only at k3
  simp only
  obtain ⟨S, hS⟩ : ∃ S, w.heap.size = S := ⟨_, rfl⟩
  obtain ⟨W1, hW1⟩ : ∃ W, W = ((w.alloc (.cells #[.int .i64 c, .int .i64 n, .slice ta tn tc, .slice ba bn bc] 40)).alloc (.cells #[.int .i64 kd, .int .i64 nn, .int .i64 q, .int .i64 f, .int .i64 u, .int .i64 rk, .slice pa pn pc, .slice ca cn cc] 27)).alloc (.cells #[.int .i64 0, .int .i64 0, .slice none 0 0, .slice none 0 0] 40) := ⟨_, rfl⟩
  obtain ⟨x1, x2, x3, hb0, hsz⟩ := do_boxes w _ _ _ _ _ _ _ _ _ _ _ _ hW1
  rw [hS] at x1 x2 x3 hsz
  obtain ⟨c0, c1, c2, c3⟩ := x1.cells
  obtain ⟨a0, a1, a2, a3, a4, a5, a6, a7⟩ := x2.cells
  have X3 := hid x3
  have HB0 := hid hb0
  have HW1 := hid hW1
  have HS := hid hS
  have HSZ := hid hsz
  subst k3
  have K := hid (Tick_out W1 c n ta tn tc l ba bn bc b (h.later hb0) nn)
  have hEq : doE ⟨c, n, l, b⟩ ⟨3, nn, ⟨q, f, u, rk, pa, pn, pc, ps⟩, ca, cn, cc, cs⟩ = tickE c n l b nn := by unfold doE; simp only [if_neg (show ¬ ((3 : Int) = 1) by decide), if_neg (show ¬ ((3 : Int) = 2) by decide), if_pos]
  have hSq : doS ⟨c, n, bareQ l, bareB b⟩ (Ac.bare ⟨3, nn, ⟨q, f, u, rk, pa, pn, pc, ps⟩, ca, cn, cc, cs⟩) = ⟨nn, n, bareQ l, stays (bareB b) nn⟩ := by
    unfold doS
    rw [if_neg (show ¬ ((Ac.bare ⟨3, nn, ⟨q, f, u, rk, pa, pn, pc, ps⟩, ca, cn, cc, cs⟩).kind = 1) from (show ¬ ((3 : Int) = 1) by decide))]
    rw [if_neg (show ¬ ((Ac.bare ⟨3, nn, ⟨q, f, u, rk, pa, pn, pc, ps⟩, ca, cn, cc, cs⟩).kind = 2) from (show ¬ ((3 : Int) = 2) by decide))]
    rw [if_pos (show (Ac.bare ⟨3, nn, ⟨q, f, u, rk, pa, pn, pc, ps⟩, ca, cn, cc, cs⟩).kind = 3 from rfl)]
    rfl
  rw [hEq, hSq]
  clear hW1 x1 x2 x3 hb0 h hsz hx hp hc hEq hSq
  rw [HW1.out] at c0 c1 c2 c3 a0 a1 a2 a3 a4 a5 a6 a7
  obtain ⟨E, hE⟩ : ∃ E, tickE c n l b nn = E := ⟨_, rfl⟩
  rw [hE] at K ⊢
  obtain ⟨ST, hST⟩ : ∃ ST : St, (⟨nn, n, bareQ l, stays (bareB b) nn⟩ : St) = ST := ⟨_, rfl⟩
  rw [hST] at K ⊢
  clear hE hST
  go_enter Tryz.func21, Tryz.ntmps21
  go_wp2_with fail
  rw [← HW1.out]
  refine K.out.mono ?_
  rintro e w1 ⟨c', n', ta', tn', tc', ba', bn', bc', i', rfl, hO, hb⟩
  have hs1 := hb.size
  have hz := HSZ.out
  have HB1 := hid (below_from HB0.out hb)
  have y3 := X3.out.later hb
  obtain ⟨W4, hW4⟩ : ∃ W, W = w1.alloc (.cells #[.int .i64 c', .int .i64 n', .slice ta' tn' tc', .slice ba' bn' bc'] 40) := ⟨_, rfl⟩
  have b4 : Below w1.heap.size w1 W4 := by rw [hW4]; exact (Below.refl _ _).alloc (Nat.le_refl _) _
  have z4 : StBox W4 w1.heap.size (.int .i64 c') (.int .i64 n') (.slice ta' tn' tc') (.slice ba' bn' bc') := by rw [hW4]; exact StBox.new w1 _ _ _ _
  have HO := hid (hO.later b4)
  have HB4 := hid (below_from HB1.out b4)
  have y4 := y3.later b4
  have s4 := b4.size
  obtain ⟨z0, z1, z2, z3⟩ := z4.cells
  obtain ⟨q0, q1, q2, q3⟩ := y4.cells
  have qf : ∀ k, W4.frozen? ⟨S + 1 + 1, k, none⟩ = false := fun k => frozen_of_row W4 (S + 2) k _ _ y4
  have p0 : W4.cell? ⟨S + 1 + 1, 0, none⟩ = some (.int .i64 0) := q0
  have p1 : W4.cell? ⟨S + 1 + 1, 1, none⟩ = some (.int .i64 0) := q1
  have p2 : W4.cell? ⟨S + 1 + 1, 2, none⟩ = some (.slice none 0 0) := q2
  have p3 : W4.cell? ⟨S + 1 + 1, 3, none⟩ = some (.slice none 0 0) := q3
  have Y4 := hid y4
  clear y3 y4 hO hb c0 c1 c2 c3 a0 a1 a2 a3 a4 a5 a6 a7 q0 q1 q2 q3
  go_upto_region 9 with fail
  rw [← hW4]
  clear hW4 b4 z4
  go_wp2_with fail
  have hst := four_stores W4 (S + 2) 40 _ _ _ _ (.int .i64 c') (.int .i64 n') (.slice ta' tn' tc') (.slice ba' bn' bc') Y4.out
  have h4 : w.heap.size ≤ S + 2 := by omega
  refine bodyPost_ret (v := .tuple #[.agg #[.int .i64 c', .int .i64 n', .slice ta' tn' tc', .slice ba' bn' bc'], .int .i64 E]) (results_row_tmp Tryz.results21 _ _ (S + 2) 40 #[.int .i64 c', .int .i64 n', .slice ta' tn' tc', .slice ba' bn' bc'] (0, 0) _ rfl hst.1 Tryz.underlying40 rfl (by kernel_rfl)) rfl ⟨c', n', ta', tn', tc', ba', bn', bc', rfl, ?_, ?_⟩
  · exact (HO.out.keep (fun k hk => hst.2 k (by omega))).mono (by omega)
  · exact ((((HB4.out.setCell (p := ⟨S + 2, 0, none⟩) h4 _).setCell (p := ⟨S + 2, 1, none⟩) h4 _).setCell (p := ⟨S + 2, 2, none⟩) h4 _).setCell (p := ⟨S + 2, 3, none⟩) h4 _)
set_option maxRecDepth 100000 in
set_option maxHeartbeats 4000000 in
theorem Do_k0 (w : World) (c n : Int) (ta : Option Addr) (tn tc : Nat) (l : QL) (ba : Option Addr) (bn bc : Nat) (b : BL) (_h : StIn w ta tn tc l ba bn bc b) (x : Ac) (hx : AcIn w x) (_hcn : x.cn ≤ 1048576) (k1 : ¬ x.kind = 1) (k2 : ¬ x.kind = 2) (k3 : ¬ x.kind = 3) (k4 : ¬ x.kind = 4) :
    Calls Tryz.prog 21 #[.agg #[.int .i64 c, .int .i64 n, .slice ta tn tc, .slice ba bn bc], .agg #[.int .i64 x.kind, .int .i64 x.n, .int .i64 x.rq.queue, .int .i64 x.rq.fr, .int .i64 x.rq.un, .int .i64 x.rq.kind, .slice x.rq.pa x.rq.pn x.rq.pc, .slice x.ca x.cn x.cc]] w fun e w' => ∃ c' n' ta' tn' tc' ba' bn' bc', e = .returned (.tuple #[.agg #[.int .i64 c', .int .i64 n', .slice ta' tn' tc', .slice ba' bn' bc'], .int .i64 (doE ⟨c, n, l, b⟩ x)]) ∧ Out w' w.heap.size (doE ⟨c, n, l, b⟩ x) (doS ⟨c, n, bareQ l, bareB b⟩ x.bare) c' n' ta' tn' tc' ba' bn' bc' ∧ Below w.heap.size w w' := by
  obtain ⟨kd, nn, ⟨q, f, u, rk, pa, pn, pc, ps⟩, ca, cn, cc, cs⟩ := x
  have hp : RunsIn w pa pn pc ps := hx.1
  have hc : RunsIn w ca cn cc cs := hx.2
  simp only at k1 k2 k3 k4
  simp only
  obtain ⟨S, hS⟩ : ∃ S, w.heap.size = S := ⟨_, rfl⟩
  obtain ⟨W1, hW1⟩ : ∃ W, W = ((w.alloc (.cells #[.int .i64 c, .int .i64 n, .slice ta tn tc, .slice ba bn bc] 40)).alloc (.cells #[.int .i64 kd, .int .i64 nn, .int .i64 q, .int .i64 f, .int .i64 u, .int .i64 rk, .slice pa pn pc, .slice ca cn cc] 27)).alloc (.cells #[.int .i64 0, .int .i64 0, .slice none 0 0, .slice none 0 0] 40) := ⟨_, rfl⟩
  obtain ⟨x1, x2, x3, hb0, hsz⟩ := do_boxes w _ _ _ _ _ _ _ _ _ _ _ _ hW1
  rw [hS] at x1 x2 x3 hsz
  obtain ⟨c0, c1, c2, c3⟩ := x1.cells
  obtain ⟨a0, a1, a2, a3, a4, a5, a6, a7⟩ := x2.cells
  have X3 := hid x3
  have HB0 := hid hb0
  have HW1 := hid hW1
  have HS := hid hS
  have HSZ := hid hsz
  have hEq : doE ⟨c, n, l, b⟩ ⟨kd, nn, ⟨q, f, u, rk, pa, pn, pc, ps⟩, ca, cn, cc, cs⟩ = 7 := by unfold doE; simp only [if_neg k1, if_neg k2, if_neg k3, if_neg k4]
  rw [hEq]
  have b1 : (kd == 1) = false := by simpa using k1
  have b2 : (kd == 2) = false := by simpa using k2
  have b3 : (kd == 3) = false := by simpa using k3
  have b4 : (kd == 4) = false := by simpa using k4
  obtain ⟨q0, q1, q2, q3⟩ := x3.cells
  have qf : ∀ k, W1.frozen? ⟨S + 1 + 1, k, none⟩ = false := fun k => frozen_of_row W1 (S + 2) k _ _ x3
  have p0 : W1.cell? ⟨S + 1 + 1, 0, none⟩ = some (.int .i64 0) := q0
  have p1 : W1.cell? ⟨S + 1 + 1, 1, none⟩ = some (.int .i64 0) := q1
  have p2 : W1.cell? ⟨S + 1 + 1, 2, none⟩ = some (.slice none 0 0) := q2
  have p3 : W1.cell? ⟨S + 1 + 1, 3, none⟩ = some (.slice none 0 0) := q3
  clear hW1 x1 x2 x3 hb0 hsz hx hp hc hEq q0 q1 q2 q3 k1 k2 k3 k4
  rw [HW1.out] at c0 c1 c2 c3 a0 a1 a2 a3 a4 a5 a6 a7
  go_enter Tryz.func21, Tryz.ntmps21
  go_upto_region 1 with fail
  rw [← HW1.out] at c0 c1 c2 c3 a0 a1 a2 a3 a4 a5 a6 a7 ⊢
  go_wp2_with fail
  have hst := four_stores W1 (S + 2) 40 _ _ _ _ (.int .i64 0) (.int .i64 0) (.slice none 0 0) (.slice none 0 0) X3.out
  have hz := HSZ.out
  have h4 : w.heap.size ≤ S + 2 := by omega
  refine bodyPost_ret (v := .tuple #[.agg #[.int .i64 0, .int .i64 0, .slice none 0 0, .slice none 0 0], .int .i64 7]) (results_row_tmp Tryz.results21 _ _ (S + 2) 40 #[.int .i64 0, .int .i64 0, .slice none 0 0, .slice none 0 0] (0, 0) _ rfl hst.1 Tryz.underlying40 rfl (by kernel_rfl)) rfl ⟨0, 0, none, 0, 0, none, 0, 0, rfl, Or.inl ⟨by decide, rfl, rfl, rfl, rfl, rfl, rfl, rfl, rfl⟩, ?_⟩
  have hfin := ((((HB0.out.setCell (p := ⟨S + 2, 0, none⟩) h4 (.int .i64 0)).setCell (p := ⟨S + 2, 1, none⟩) h4 (.int .i64 0)).setCell (p := ⟨S + 2, 2, none⟩) h4 (.slice none 0 0)).setCell (p := ⟨S + 2, 3, none⟩) h4 (.slice none 0 0))
  first
  | exact hfin
  | (rw [hS] at hfin; exact hfin)
end Go.Proofs.YtckpdfkobdgjeaaGreatDoor
namespace Go.Proofs.YtckpdfkobdgjeaaGreatDoor
open Go.RowKit
set_option maxRecDepth 100000 in
set_option maxHeartbeats 4000000 in
theorem Begin_wrong (w : World) (a : Option Addr) (n cap : Nat) (l : QL) (h : QsIn w a n cap l) (hc : chkT l ≠ 0) :
    Calls Tryz.prog 40 #[.slice a n cap] w fun e w' => e = .returned (.tuple #[.agg #[.int .i64 0, .int .i64 0, .slice none 0 0, .slice none 0 0], .int .i64 (chkT l)]) ∧ Below w.heap.size w w' := by
  obtain ⟨S, hS⟩ : ∃ S, w.heap.size = S := ⟨_, rfl⟩
  obtain ⟨W1, hW1⟩ : ∃ W1, W1 = w.alloc (.cells #[.int .i64 0, .int .i64 0, .slice none 0 0, .slice none 0 0] 40) := ⟨_, rfl⟩
  have hb0 : Below w.heap.size w W1 := by rw [hW1]; exact (Below.refl _ _).alloc (Nat.le_refl _) _
  have hrs : StBox W1 S (.int .i64 0) (.int .i64 0) (.slice none 0 0) (.slice none 0 0) := by rw [hW1, ← hS]; exact StBox.new w _ _ _ _
  have hsz : W1.heap.size = S + 1 := by rw [hW1, ← hS]; simp
  have K1 := CheckT_any W1 a n cap l (h.later hb0)
  obtain ⟨E, hE⟩ : ∃ E, chkT l = E := ⟨_, rfl⟩
  rw [hE] at K1 hc ⊢
  have hne : (E != 0) = true := by simpa using hc
  have HK1 := hid K1
  have HW1 := hid hW1
  have HB0 := hid hb0
  have HRS := hid hrs
  have HSZ := hid hsz
  clear K1 hW1 hb0 hrs hsz h hE
  go_enter Tryz.func40, Tryz.ntmps40
  go_wp2_with fail
  rw [← HW1.out]
  refine HK1.out.mono ?_
  rintro e w1 ⟨rfl, hb⟩
  have hz := HSZ.out
  have HB1 := hid (below_from HB0.out hb)
  have HR := hid (HRS.out.later hb)
  obtain ⟨q0, q1, q2, q3⟩ := HR.out.cells
  have qf : ∀ k, w1.frozen? ⟨S, k, none⟩ = false := fun k => frozen_of_row w1 S k _ _ HR.out
  clear hb
  go_wp2_with fail
  have hst := four_stores w1 S 40 _ _ _ _ (.int .i64 0) (.int .i64 0) (.slice none 0 0) (.slice none 0 0) HR.out
  have h4 : w.heap.size ≤ S := by omega
  refine bodyPost_ret (v := .tuple #[.agg #[.int .i64 0, .int .i64 0, .slice none 0 0, .slice none 0 0], .int .i64 E]) (results_row_tmp Tryz.results40 _ _ S 40 #[.int .i64 0, .int .i64 0, .slice none 0 0, .slice none 0 0] (0, 0) _ rfl hst.1 Tryz.underlying40 rfl (by kernel_rfl)) rfl ⟨rfl, ?_⟩
  exact ((((HB1.out.setCell (p := ⟨S, 0, none⟩) h4 _).setCell (p := ⟨S, 1, none⟩) h4 _).setCell (p := ⟨S, 2, none⟩) h4 _).setCell (p := ⟨S, 3, none⟩) h4 _)
set_option maxRecDepth 100000 in
set_option maxHeartbeats 4000000 in
theorem Begin_new (w : World) (a : Option Addr) (n cap : Nat) (l : QL) (h : QsIn w a n cap l) (hc : chkT l = 0) :
    Calls Tryz.prog 40 #[.slice a n cap] w fun e w' => ∃ g k l', e = .returned (.tuple #[.agg #[.int .i64 0, .int .i64 0, .slice (some ⟨g, 0, none⟩) n k, .slice none 0 0], .int .i64 0]) ∧ OwnQs w' w.heap.size (.slice (some ⟨g, 0, none⟩) n k) l' ∧ n = l'.length ∧ bareQ l' = bareQ l ∧ Below w.heap.size w w' ∧ (∀ i, i < n → 0 < (qu l' i).cn → ∀ b off, (qu l' i).ca = some ⟨b, off, none⟩ → w.heap.size ≤ b) := by
  obtain ⟨n0, n5, ncs⟩ := caps_few h hc
  obtain ⟨S, hS⟩ : ∃ S, w.heap.size = S := ⟨_, rfl⟩
  obtain ⟨W1, hW1⟩ : ∃ W1, W1 = w.alloc (.cells #[.int .i64 0, .int .i64 0, .slice none 0 0, .slice none 0 0] 40) := ⟨_, rfl⟩
  have hb0 : Below w.heap.size w W1 := by rw [hW1]; exact (Below.refl _ _).alloc (Nat.le_refl _) _
  have hrs : W1.heap[S]? = some (.cells #[.int .i64 0, .int .i64 0, .slice none 0 0, .slice none 0 0] 40 (0, 0)) := by rw [hW1, ← hS]; exact heap_alloc_new w _
  have hsz : W1.heap.size = S + 1 := by rw [hW1, ← hS]; simp
  have K1 := CheckT_any W1 a n cap l (h.later hb0)
  rw [hc] at K1
  have HK1 := hid K1
  have HK2 := hid fun X (hX : Below w.heap.size w X) => Queues_any X a n cap l (h.later hX) n0 (by omega) (fun i hi => by have := ncs i hi; omega)
  have HW1 := hid hW1
  have HB0 := hid hb0
  have HRS := hid hrs
  have HSZ := hid hsz
  clear K1 hW1 hb0 hrs hsz h hc ncs
  go_enter Tryz.func40, Tryz.ntmps40
  go_wp2_with fail
  rw [← HW1.out]
  refine HK1.out.mono ?_
  rintro e w1 ⟨rfl, hb⟩
  have HB1 := hid (below_from HB0.out hb)
  have HBB := hid hb
  clear hb
  go_wp2_with fail
  refine (HK2.out w1 HB1.out).mono ?_
  rintro e w2 ⟨g, k, l', rfl, hO, hl', hbare, hb, hle, hnc⟩
  have hz := HSZ.out
  have hz1 := HBB.out.size
  have hres : w2.heap[S]? = some (.cells #[.int .i64 0, .int .i64 0, .slice none 0 0, .slice none 0 0] 40 (0, 0)) := by rw [hb.block S (by omega), HBB.out.block S (by omega)]; exact HRS.out
  have q0 : w2.cell? ⟨S, 0, none⟩ = some (.int .i64 0) := by rw [cell_of_row w2 S 0 _ _ _ hres]; rfl
  have q1 : w2.cell? ⟨S, 1, none⟩ = some (.int .i64 0) := by rw [cell_of_row w2 S 1 _ _ _ hres]; rfl
  have q2 : w2.cell? ⟨S, 2, none⟩ = some (.slice none 0 0) := by rw [cell_of_row w2 S 2 _ _ _ hres]; rfl
  have q3 : w2.cell? ⟨S, 3, none⟩ = some (.slice none 0 0) := by rw [cell_of_row w2 S 3 _ _ _ hres]; rfl
  have qf : ∀ k, w2.frozen? ⟨S, k, none⟩ = false := fun k => frozen_of_row w2 S k _ _ hres
  have HR := hid hres
  have HO := hid hO
  have HL := hid hl'
  have HBA := hid hbare
  have HB2 := hid (below_from HB1.out hb)
  have HNC := hid hnc
  clear hres hO hl' hbare hb hnc
  go_wp2_with fail
  have hst := four_stores w2 S 40 _ _ _ _ (.int .i64 0) (.int .i64 0) (.slice (some ⟨g, 0, none⟩) n k) (.slice none 0 0) HR.out
  have h4 : w.heap.size ≤ S := by omega
  refine bodyPost_ret (v := .tuple #[.agg #[.int .i64 0, .int .i64 0, .slice (some ⟨g, 0, none⟩) n k, .slice none 0 0], .int .i64 0]) (results_row_tmp Tryz.results40 _ _ S 40 #[.int .i64 0, .int .i64 0, .slice (some ⟨g, 0, none⟩) n k, .slice none 0 0] (0, 0) _ rfl hst.1 Tryz.underlying40 rfl (by kernel_rfl)) rfl ⟨g, k, l', rfl, ?_, HL.out, HBA.out, ?_, ?_⟩
  · have hl := HL.out
    refine OwnQs.base (HO.out.blocks (fun i hi hp b off e => HNC.out i (by omega) hp b off e) fun k' hk1 hk2 => hst.2 k' (by omega)) (by omega)
  · exact ((((HB2.out.setCell (p := ⟨S, 0, none⟩) h4 _).setCell (p := ⟨S, 1, none⟩) h4 _).setCell (p := ⟨S, 2, none⟩) h4 _).setCell (p := ⟨S, 3, none⟩) h4 _)
  · intro i hi hp b off e
    have := HNC.out i hi hp b off e
    have := HB1.out.size
    omega
theorem acRow_at : ∀ (l : List Ac) (i k : Nat) {X : Ac}, l[i]? = some X → k < 8 → (acRow l)[i * 8 + k]? = (acCells X)[k]?
  | [], i, k, X, h, _ => by simp at h
  | x :: l, 0, k, X, h, hk => by
    rw [List.getElem?_cons_zero] at h
    cases h
    rw [acRow, List.getElem?_append_left (by simp [acCells]; omega), Nat.zero_mul, Nat.zero_add]
  | x :: l, i + 1, k, X, h, hk => by
    rw [List.getElem?_cons_succ] at h
    have := acRow_at l i k h hk
    rw [acRow, List.getElem?_append_right (by simp [acCells]; omega), ← this]
    congr 1
    simp [acCells]
    omega
theorem ac_cells {w : World} {B c : Nat} {a : Option Addr} {l : List Ac} (h : w.ownsRow B 27 8 (.slice a l.length c) l.length (acRow l)) {i : Nat} {X : Ac} (hX : l[i]? = some X) : ∃ g, a = some ⟨g, 0, none⟩ ∧ l.length ≤ c ∧ c ≤ 9223372036854775807 ∧ ∀ j u, (acCells X)[j]? = some u → w.cell? ⟨g, i * 8 + j, none⟩ = some u := by
  have hi : i < l.length := (List.getElem?_eq_some_iff.1 hX).1
  rcases h.2 with ⟨e, h0⟩ | ⟨g', cap, cur, e, hB, hg, hle, hm, hs, ht⟩
  · omega
  · simp only [Value.slice.injEq, true_and] at e
    obtain ⟨rfl, rfl⟩ := e
    refine ⟨g', rfl, hle, by unfold maxLen at hm; omega, fun j u hj => ?_⟩
    have hj8 : j < 8 := (List.getElem?_eq_some_iff.1 hj).1
    rw [cell_of_row w g' _ _ _ _ hg, ← Array.getElem?_toList]
    have h2 := acRow_at l i j hX hj8
    rw [← ht, List.getElem?_take, if_pos (by omega)] at h2
    rw [h2]
    exact hj
structure BlkSt (P : Nat → Prop) (ta : Option Addr) (tn : Nat) (l : QL) (ba : Option Addr) (bn : Nat) (b : BL) : Prop where
  qs : 0 < tn → ∀ g off, ta = some ⟨g, off, none⟩ → P g
  caps : ∀ i, i < tn → 0 < (qu l i).cn → ∀ g off, (qu l i).ca = some ⟨g, off, none⟩ → P g
  bks : 0 < bn → ∀ g off, ba = some ⟨g, off, none⟩ → P g
  ps : ∀ i, i < bn → 0 < (bk b i).rq.pn → ∀ g off, (bk b i).rq.pa = some ⟨g, off, none⟩ → P g
  bs : ∀ i, i < bn → 0 < (bk b i).bn → ∀ g off, (bk b i).ba = some ⟨g, off, none⟩ → P g
theorem NewSt.blk {B : Nat} {P : Nat → Prop} {ta : Option Addr} {tn : Nat} {l : QL} {ba : Option Addr} {bn : Nat} {b : BL} (h : NewSt B ta tn l ba bn b) (hP : ∀ k, B ≤ k → P k) : BlkSt P ta tn l ba bn b :=
  ⟨fun a g o e => hP _ (h.qs a g o e), fun i a c g o e => hP _ (h.caps i a c g o e), fun a g o e => hP _ (h.bks a g o e), fun i a c g o e => hP _ (h.ps i a c g o e), fun i a c g o e => hP _ (h.bs i a c g o e)⟩
theorem BlkSt.new {B : Nat} {P : Nat → Prop} {ta : Option Addr} {tn : Nat} {l : QL} {ba : Option Addr} {bn : Nat} {b : BL} (h : BlkSt P ta tn l ba bn b) (hP : ∀ k, P k → B ≤ k) : NewSt B ta tn l ba bn b :=
  ⟨fun a g o e => hP _ (h.qs a g o e), fun i a c g o e => hP _ (h.caps i a c g o e), fun a g o e => hP _ (h.bks a g o e), fun i a c g o e => hP _ (h.ps i a c g o e), fun i a c g o e => hP _ (h.bs i a c g o e)⟩
theorem StIn.stand {w w' : World} {P : Nat → Prop} {ta : Option Addr} {tn tc : Nat} {l : QL} {ba : Option Addr} {bn bc : Nat} {b : BL} (h : StIn w ta tn tc l ba bn bc b) (hN : BlkSt P ta tn l ba bn b) (hk : ∀ k, P k → w'.heap[k]? = w.heap[k]?) : StIn w' ta tn tc l ba bn bc b :=
  ⟨h.1.keep (fun h0 g off e => hk g (hN.qs h0 g off e)) (fun i hi h0 g off e => hk g (hN.caps i hi h0 g off e)), h.2.keep (fun h0 g off e => hk g (hN.bks h0 g off e)) (fun i hi h0 g off e => hk g (hN.ps i hi h0 g off e)) (fun i hi h0 g off e => hk g (hN.bs i hi h0 g off e))⟩
structure RecInv (w wr : World) (S B : Nat) (s : St) (u : Value) (acts : List Ac) (c n : Int) (ta : Option Addr) (tn tc : Nat) (l : QL) (ba : Option Addr) (bn bc : Nat) (b : BL) : Prop where
  box : StBox wr B (.int .i64 c) (.int .i64 n) (.slice ta tn tc) (.slice ba bn bc)
  res : StBox wr S (.int .i64 0) (.int .i64 0) (.slice none 0 0) (.slice none 0 0)
  st : StIn wr ta tn tc l ba bn bc b
  blk : BlkSt (fun k => S < k ∧ k ≠ B) ta tn l ba bn b
  says : c = s.c ∧ n = s.n ∧ bareQ l = s.l ∧ bareB b = s.b
  row : wr.ownsRow (B + 1) 27 8 u acts.length (acRow acts)
  each : ∀ x ∈ acts, AcIn wr x ∧ AcFar (B + 1) x u
  below : Below S w wr
  sb : S < B
theorem RecInv.size {w wr : World} {S B : Nat} {s : St} {u : Value} {acts : List Ac} {c n : Int} {ta : Option Addr} {tn tc : Nat} {l : QL} {ba : Option Addr} {bn bc : Nat} {b : BL} (h : RecInv w wr S B s u acts c n ta tn tc l ba bn bc b) : B < wr.heap.size := (Array.getElem?_eq_some_iff.1 h.box).1
theorem RecInv.later {w wr wx : World} {S B : Nat} {s : St} {u : Value} {acts : List Ac} {c n : Int} {ta : Option Addr} {tn tc : Nat} {l : QL} {ba : Option Addr} {bn bc : Nat} {b : BL} (h : RecInv w wr S B s u acts c n ta tn tc l ba bn bc b) (hb : Below wr.heap.size wr wx) : RecInv w wx S B s u acts c n ta tn tc l ba bn bc b :=
  ⟨h.box.later hb, h.res.later hb, h.st.later hb, h.blk, h.says, ownsRow_later h.row hb, fun x hx => ⟨(h.each x hx).1.later hb, (h.each x hx).2⟩, h.below.trans (hb.mono (by have := h.size; have := h.sb; omega)), h.sb⟩
theorem RecInv.store {w wr : World} {S B : Nat} {s s' : St} {u : Value} {acts : List Ac} {c n : Int} {ta : Option Addr} {tn tc : Nat} {l : QL} {ba : Option Addr} {bn bc : Nat} {b : BL} (h : RecInv w wr S B s u acts c n ta tn tc l ba bn bc b)
    {c' n' : Int} {ta' : Option Addr} {tn' tc' : Nat} {l' : QL} {ba' : Option Addr} {bn' bc' : Nat} {b' : BL} (hs : StIn wr ta' tn' tc' l' ba' bn' bc' b') (hN : NewSt (B + 1) ta' tn' l' ba' bn' b') (hsay : c' = s'.c ∧ n' = s'.n ∧ bareQ l' = s'.l ∧ bareB b' = s'.b) :
    RecInv w ((((wr.setCell ⟨B, 0, none⟩ (.int .i64 c')).setCell ⟨B, 1, none⟩ (.int .i64 n')).setCell ⟨B, 2, none⟩ (.slice ta' tn' tc')).setCell ⟨B, 3, none⟩ (.slice ba' bn' bc')) S B s' u acts c' n' ta' tn' tc' l' ba' bn' bc' b' := by
  have hst := four_stores wr B 40 _ _ _ _ (.int .i64 c') (.int .i64 n') (.slice ta' tn' tc') (.slice ba' bn' bc') h.box
  obtain ⟨W, hW⟩ : ∃ W, W = (((wr.setCell ⟨B, 0, none⟩ (.int .i64 c')).setCell ⟨B, 1, none⟩ (.int .i64 n')).setCell ⟨B, 2, none⟩ (.slice ta' tn' tc')).setCell ⟨B, 3, none⟩ (.slice ba' bn' bc') := ⟨_, rfl⟩
  have hB := h.sb
  have hbel : Below S w W := by rw [hW]; exact (((h.below.setCell (p := ⟨B, 0, none⟩) (by show S ≤ B; omega) _).setCell (p := ⟨B, 1, none⟩) (by show S ≤ B; omega) _).setCell (p := ⟨B, 2, none⟩) (by show S ≤ B; omega) _).setCell (p := ⟨B, 3, none⟩) (by show S ≤ B; omega) _
  rw [← hW] at hst ⊢
  refine ⟨hst.1, (hst.2 S (by omega)).trans h.res, hs.keep hN (fun k hk => hst.2 k (by omega)), hN.blk (fun k hk => ⟨by omega, by omega⟩), hsay, ?_, fun x hx => ⟨?_, (h.each x hx).2⟩, hbel, h.sb⟩
  · have hr := h.row
    refine ⟨hr.1, ?_⟩
    rcases hr.2 with hz | ⟨g, cap, cur, e, hBg, hg, rest⟩
    · exact .inl hz
    · exact .inr ⟨g, cap, cur, e, hBg, (hst.2 g (by omega)).trans hg, rest⟩
  · refine (h.each x hx).1.of_blocks (fun h0 k off e => hst.2 k ?_) (fun h0 k off e => hst.2 k ?_)
    · have := ((h.each x hx).2.1 h0 k off e).1; omega
    · have := ((h.each x hx).2.2 h0 k off e).1; omega
theorem whole_few {t : ByteArray} {k : Nat} (h : whole t k) : pN t k ≤ 3 ∧ cN t k ≤ 48 := by
  obtain ⟨_, h2, _, h4, _⟩ := h
  unfold pN cN
  omega
theorem ReadOf.few {t : ByteArray} : ∀ {l : List Ac} {k m : Nat}, ReadOf t k l m → ∀ x ∈ l, x.rq.ps.length ≤ 3 ∧ x.cs.length ≤ 48
  | [], _, _, _, x, hx => by cases hx
  | y :: l, k, m, h, x, hx => by
    rcases List.mem_cons.1 hx with rfl | hx
    · have := whole_few h.1
      rw [h.2.1.ps, h.2.1.cs, prs_len, prs_len]
      exact this
    · exact ReadOf.few h.2.2 x hx
def recE (l : QL) (t : ByteArray) : Int := if chkT l = 0 then (if 4096 < t.size then 2 else 0) else chkT l
def recSt (l : QL) (t : ByteArray) : St := recS ⟨0, 0, bareQ l, []⟩ (readF t 60 0).1
def recN (l : QL) (t : ByteArray) : Int := if recE l t = 0 then ((readF t 60 0).1.length : Int) else 0
def RecAns (w w' : World) (e : Ending) (l : QL) (t : ByteArray) : Prop := ∃ c' n' ta' tn' tc' ba' bn' bc', e = .returned (.tuple #[.agg #[.int .i64 c', .int .i64 n', .slice ta' tn' tc', .slice ba' bn' bc'], .int .i64 (recN l t), .int .i64 (recE l t)]) ∧ Out w' w.heap.size (recE l t) (recSt l t) c' n' ta' tn' tc' ba' bn' bc' ∧ Below w.heap.size w w'
end Go.Proofs.YtckpdfkobdgjeaaGreatDoor
namespace Go.Proofs.YtckpdfkobdgjeaaGreatDoor
open Go.RowKit
def DoIs (x : Ac) : Prop := ∀ (w : World) (c n : Int) (ta : Option Addr) (tn tc : Nat) (l : QL) (ba : Option Addr) (bn bc : Nat) (b : BL), StIn w ta tn tc l ba bn bc b → AcIn w x → x.cn ≤ 1048576 →
    Calls Tryz.prog 21 #[.agg #[.int .i64 c, .int .i64 n, .slice ta tn tc, .slice ba bn bc], .agg #[.int .i64 x.kind, .int .i64 x.n, .int .i64 x.rq.queue, .int .i64 x.rq.fr, .int .i64 x.rq.un, .int .i64 x.rq.kind, .slice x.rq.pa x.rq.pn x.rq.pc, .slice x.ca x.cn x.cc]] w fun e w' => ∃ c' n' ta' tn' tc' ba' bn' bc', e = .returned (.tuple #[.agg #[.int .i64 c', .int .i64 n', .slice ta' tn' tc', .slice ba' bn' bc'], .int .i64 (doE ⟨c, n, l, b⟩ x)]) ∧ Out w' w.heap.size (doE ⟨c, n, l, b⟩ x) (doS ⟨c, n, bareQ l, bareB b⟩ x.bare) c' n' ta' tn' tc' ba' bn' bc' ∧ Below w.heap.size w w'
set_option maxRecDepth 100000 in
set_option maxHeartbeats 4000000 in
theorem Recover_by (w : World) (a : Option Addr) (n cap : Nat) (l : QL) (h : QsIn w a n cap l) (t : ByteArray) (v : Value) (hv : Told w v)
    (hDo : ∀ X : Ac, X.bare ∈ (readF t 60 0).1 → DoIs X) :
    Calls Tryz.prog 15 #[.slice a n cap, .string t] w fun e w' => RecAns w w' e l t := by
  obtain ⟨S, hS⟩ : ∃ S, w.heap.size = S := ⟨_, rfl⟩
  obtain ⟨W1, hW1⟩ : ∃ W1, W1 = w.alloc (.cells #[.int .i64 0, .int .i64 0, .slice none 0 0, .slice none 0 0] 40) := ⟨_, rfl⟩
  have hb0 : Below w.heap.size w W1 := by rw [hW1]; exact (Below.refl _ _).alloc (Nat.le_refl _) _
  have hrs : StBox W1 S (.int .i64 0) (.int .i64 0) (.slice none 0 0) (.slice none 0 0) := by rw [hW1, ← hS]; exact StBox.new w _ _ _ _
  have hsz : W1.heap.size = S + 1 := by rw [hW1, ← hS]; simp
  have hv1 : Told W1 v := Told.below hv hS (by rw [← hS]; exact hb0)
  have HSS := hid hS
  have HB0 := hid hb0
  have HRS := hid hrs
  have HSZ := hid hsz
  have HV1 := hid hv1
  by_cases hc : chkT l = 0
  case neg =>
    have hE : recE l t = chkT l := by unfold recE; rw [if_neg hc]
    have hN : recN l t = 0 := by unfold recN; rw [hE, if_neg hc]
    have K := hid (Begin_wrong W1 a n cap l (h.later hb0) hc)
    have HH := hid (And.intro hE (And.intro hN hc))
    obtain ⟨E, hEE⟩ : ∃ E, chkT l = E := ⟨_, rfl⟩
    have HEE := hid hEE
    rw [hEE] at K hc
    have hne : (E != 0) = true := by simpa using hc
    have HW1 := hid hW1
    clear h hv hW1 hb0 hrs hsz hv1 hE hN hEE
    go_enter Tryz.func15, Tryz.ntmps15
    go_wp2_with fail
    rw [← HW1.out]
    refine K.out.mono ?_
    rintro e w1 ⟨rfl, hb⟩
    obtain ⟨W4, hW4⟩ : ∃ W, W = w1.alloc (.cells #[.int .i64 0, .int .i64 0, .slice none 0 0, .slice none 0 0] 40) := ⟨_, rfl⟩
    have b4 : Below w1.heap.size w1 W4 := by rw [hW4]; exact (Below.refl _ _).alloc (Nat.le_refl _) _
    have HB4 := hid (below_from (below_from HB0.out hb) b4)
    have HR := hid ((HRS.out.later hb).later b4)
    obtain ⟨q0, q1, q2, q3⟩ := HR.out.cells
    have qf : ∀ k, W4.frozen? ⟨S, k, none⟩ = false := fun k => frozen_of_row W4 S k _ _ HR.out
    clear hb
    go_upto_region 2 with fail
    rw [← hW4]
    clear hW4 b4
    go_wp2_with fail
    have hst := four_stores W4 S 40 _ _ _ _ (.int .i64 0) (.int .i64 0) (.slice none 0 0) (.slice none 0 0) HR.out
    have h4 : w.heap.size ≤ S := by omega
    refine bodyPost_ret (v := .tuple #[.agg #[.int .i64 0, .int .i64 0, .slice none 0 0, .slice none 0 0], .int .i64 0, .int .i64 E]) (results_row_tmp2 Tryz.results15 _ _ S 40 #[.int .i64 0, .int .i64 0, .slice none 0 0, .slice none 0 0] (0, 0) _ rfl hst.1 Tryz.underlying40 rfl (by kernel_rfl)) rfl ⟨0, 0, none, 0, 0, none, 0, 0, ?_, Or.inl ⟨?_, rfl, rfl, rfl, rfl, rfl, rfl, rfl, rfl⟩, ?_⟩
    · rw [HH.out.1, HH.out.2.1, HEE.out]
    · rw [HH.out.1]; exact HH.out.2.2
    · exact ((((HB4.out.setCell (p := ⟨S, 0, none⟩) h4 _).setCell (p := ⟨S, 1, none⟩) h4 _).setCell (p := ⟨S, 2, none⟩) h4 _).setCell (p := ⟨S, 3, none⟩) h4 _)
  have K := hid (Begin_new W1 a n cap l (h.later hb0) hc)
  have HC := hid hc
  have HW1 := hid hW1
  clear h hv hW1 hb0 hrs hsz hv1 hc
  go_enter Tryz.func15, Tryz.ntmps15
  go_wp2_with fail
  rw [← HW1.out]
  refine K.out.mono ?_
  rintro e w1 ⟨g, k, l', rfl, hO, hl', hbare, hb, hnc⟩
  have hz := HSZ.out
  have hs1 := hb.size
  obtain ⟨B, hB⟩ : ∃ B, w1.heap.size = B := ⟨_, rfl⟩
  obtain ⟨W2, hW2⟩ : ∃ W, W = w1.alloc (.cells #[.int .i64 0, .int .i64 0, .slice (some ⟨g, 0, none⟩) n k, .slice none 0 0] 40) := ⟨_, rfl⟩
  have b2 : Below w1.heap.size w1 W2 := by rw [hW2]; exact (Below.refl _ _).alloc (Nat.le_refl _) _
  have hB2 : StBox W2 B (.int .i64 0) (.int .i64 0) (.slice (some ⟨g, 0, none⟩) n k) (.slice none 0 0) := by rw [hW2, ← hB]; exact StBox.new w1 _ _ _ _
  have hsz2 : W2.heap.size = B + 1 := by rw [hW2, ← hB]; simp
  have HR2 := hid ((HRS.out.later hb).later b2)
  have HBW := hid (below_from (below_from HB0.out hb) b2)
  have HV2 := hid (show Told W2 v from Told.below HV1.out rfl (below_from hb b2))
  have hst2 : StIn W2 (some ⟨g, 0, none⟩) n k l' none 0 0 [] := ⟨(own_qs_is hO).later b2, none_in _⟩
  have hblk2 : BlkSt (fun j => S < j ∧ j ≠ B) (some ⟨g, 0, none⟩) n l' none 0 [] := by
    refine ⟨fun h0 g' off e => ?_, fun i hi h0 g' off e => ?_, fun h0 => absurd h0 (Nat.lt_irrefl _), fun i hi => absurd hi (Nat.not_lt_zero _), fun i hi => absurd hi (Nat.not_lt_zero _)⟩
    · have e1 : g = g' := by injection e with e; injection e with e1
      have h1 := hO.row.lt g rfl
      omega
    · have h1 := (own_qs_is hO).caps i hi
      have h2 := h1.lt h0 e
      have h3 := hnc i hi h0 g' off e
      omega
  have HI2 := hid (And.intro hB2 (And.intro hst2 (And.intro hblk2 hbare)))
  have K2 := hid (Replay_any W2 t v HV2.out)
  have HSZ2 := hid hsz2
  have HBB := hid hB
  have hSB : S < B := by omega
  obtain ⟨d0, d1, d2, d3⟩ := hB2.cells
  have HW2 := hid hW2
  clear hO hl' hbare hb hnc b2 hB2 hst2 hblk2 hsz2 hs1 hz
  go_upto_region 2 with fail
  rw [← hW2]
  clear hW2 d0 d1 d2 d3
  go_wp2_with fail
  refine K2.out.mono ?_
  rintro e w3 ⟨hb3, ⟨h4, rfl⟩ | ⟨h4, u, acts, m, rfl, hrow, heach, hread, h60, hend⟩⟩
  · have hE : recE l t = 2 := by unfold recE; rw [if_pos HC.out, if_pos h4]
    have hN : recN l t = 0 := by unfold recN; rw [hE]; rfl
    have HH := hid (And.intro hE hN)
    have HB4 := hid (below_from HBW.out hb3)
    have HR := hid (HR2.out.later hb3)
    obtain ⟨q0, q1, q2, q3⟩ := HR.out.cells
    have qf : ∀ k, w3.frozen? ⟨S, k, none⟩ = false := fun k => frozen_of_row w3 S k _ _ HR.out
    clear hb3 h4 hE hN
    go_wp2_with fail
    have hst := four_stores w3 S 40 _ _ _ _ (.int .i64 0) (.int .i64 0) (.slice none 0 0) (.slice none 0 0) HR.out
    have h4 : w.heap.size ≤ S := by omega
    refine bodyPost_ret (v := .tuple #[.agg #[.int .i64 0, .int .i64 0, .slice none 0 0, .slice none 0 0], .int .i64 0, .int .i64 2]) (results_row_tmp2 Tryz.results15 _ _ S 40 #[.int .i64 0, .int .i64 0, .slice none 0 0, .slice none 0 0] (0, 0) _ rfl hst.1 Tryz.underlying40 rfl (by kernel_rfl)) rfl ⟨0, 0, none, 0, 0, none, 0, 0, ?_, Or.inl ⟨?_, rfl, rfl, rfl, rfl, rfl, rfl, rfl, rfl⟩, ?_⟩
    · rw [HH.out.1, HH.out.2]
    · rw [HH.out.1]; decide
    · exact ((((HB4.out.setCell (p := ⟨S, 0, none⟩) h4 _).setCell (p := ⟨S, 1, none⟩) h4 _).setCell (p := ⟨S, 2, none⟩) h4 _).setCell (p := ⟨S, 3, none⟩) h4 _)
  have hz2 := HSZ2.out
  have hRF : readF t 60 0 = (acts.map Ac.bare, m) := hread.is h60 hend
  have hE : recE l t = 0 := by unfold recE; rw [if_pos HC.out, if_neg (by omega)]
  have hN : recN l t = acts.length := by unfold recN; rw [hE, if_pos rfl, hRF]; simp
  have hSt : recSt l t = recS ⟨0, 0, bareQ l, []⟩ (acts.map Ac.bare) := by unfold recSt; rw [hRF]
  obtain ⟨s0, hs0⟩ : ∃ s0 : St, s0 = ⟨0, 0, bareQ l, []⟩ := ⟨_, rfl⟩
  rw [← hs0] at hSt
  obtain ⟨i1, i2, i3, i4⟩ := HI2.out
  have hI0 : RecInv w w3 S B (recS s0 ((acts.take 0).map Ac.bare)) u acts 0 0 (some ⟨g, 0, none⟩) n k l' none 0 0 [] :=
    ⟨i1.later hb3, HR2.out.later hb3, i2.later hb3, i3, by rw [hs0]; exact ⟨rfl, rfl, i4, rfl⟩, row_base hrow (by omega), fun x hx => ⟨(heach x hx).1, AcFar.mono (heach x hx).2 (by omega)⟩, by rw [← HSS.out]; exact below_from HBW.out hb3, hSB⟩
  have HI0 := hid hI0
  obtain ⟨ua, uc, rfl⟩ := row_form hrow
  have HFEW := hid (hread.few)
  have HDO := hid (show ∀ X ∈ acts, DoIs X from fun X hX => hDo X (by rw [hRF]; exact List.mem_map_of_mem hX))
  have HH := hid (And.intro hE (And.intro hN hSt))
  clear hb3 h4 hrow heach hread hend hRF hE hN hSt hs0 i1 i2 i3 i4 hI0 hz2
  go_wp2_with fail
  go_loopg [36] acts.length (fun gk (p : Value) wr => ∃ (j : Nat) (c n' : Int) (ta : Option Addr) (tn tc : Nat) (lq : QL) (ba : Option Addr) (bn bc : Nat) (bb : BL), p = .int .i64 (j : Int) ∧ j ≤ acts.length ∧ gk = acts.length - j ∧ RecInv w wr S B (recS s0 ((acts.take j).map Ac.bare)) (.slice ua acts.length uc) acts c n' ta tn tc lq ba bn bc bb)
  case atStart => exact ⟨0, 0, 0, some ⟨g, 0, none⟩, n, k, l', none, 0, 0, [], rfl, Nat.zero_le _, by simp, HI0.out⟩
  case round =>
    obtain ⟨j, c, n', ta, tn, tc, lq, ba, bn, bc, bb, rfl, hj, rfl, hI⟩ := hrel
    have HI := hid hI
    clear hI
    by_cases hlt : j < acts.length
    · have hlt' : (j : Int) < acts.length := by omega
      obtain ⟨X, hX⟩ : ∃ X, acts[j]? = some X := ⟨acts[j], List.getElem?_eq_getElem hlt⟩
      have hXm : X ∈ acts := List.mem_of_getElem? hX
      obtain ⟨ga, rfl, r1, r2, r3⟩ := ac_cells HI.out.row hX
      have e0 := r3 0 _ rfl
      have e1 := r3 1 _ rfl
      have e2 := r3 2 _ rfl
      have e3 := r3 3 _ rfl
      have e4 := r3 4 _ rfl
      have e5 := r3 5 _ rfl
      have e6 := r3 6 _ rfl
      have e7 := r3 7 _ rfl
      simp only [Nat.add_zero] at e0
      obtain ⟨P, hP⟩ : ∃ P, wr.heap.size = P := ⟨_, rfl⟩
      obtain ⟨W5, hW5⟩ : ∃ W, W = wr.alloc (.cells #[.int .i64 X.kind, .int .i64 X.n, .int .i64 X.rq.queue, .int .i64 X.rq.fr, .int .i64 X.rq.un, .int .i64 X.rq.kind, .slice X.rq.pa X.rq.pn X.rq.pc, .slice X.ca X.cn X.cc] 27) := ⟨_, rfl⟩
      have b5 : Below wr.heap.size wr W5 := by rw [hW5]; exact (Below.refl _ _).alloc (Nat.le_refl _) _
      have hx5 : AcBox W5 P (.int .i64 X.kind) (.int .i64 X.n) (.int .i64 X.rq.queue) (.int .i64 X.rq.fr) (.int .i64 X.rq.un) (.int .i64 X.rq.kind) (.slice X.rq.pa X.rq.pn X.rq.pc) (.slice X.ca X.cn X.cc) := by rw [hW5, ← hP]; exact heap_alloc_new wr _
      have HI5 := hid (HI.out.later b5)
      have hXn : X.cn ≤ 1048576 := by
        have h1 := (HI.out.each X hXm).1.2.len
        have h2 := (HFEW.out X hXm).2
        omega
      have hK := HDO.out X hXm W5 c n' ta tn tc lq ba bn bc bb HI5.out.st (HI5.out.each X hXm).1 hXn
      have hpb : B < P := by have := HI.out.size; omega
      have hs5 : W5.heap.size = P + 1 := by rw [hW5, ← hP]; simp
      obtain ⟨y0, y1, y2, y3⟩ := HI5.out.box.cells
      obtain ⟨z0, z1, z2, z3, z4, z5, z6, z7⟩ := hx5.cells
      have hdo : doE ⟨c, n', lq, bb⟩ X = doE (recS s0 ((acts.take j).map Ac.bare)) X.bare := by
        obtain ⟨s1, s2, s3, s4⟩ := HI.out.says
        rw [← doE_bare, s1, s2, s3, s4]
      have hds : doS ⟨c, n', bareQ lq, bareB bb⟩ X.bare = doS (recS s0 ((acts.take j).map Ac.bare)) X.bare := by
        obtain ⟨s1, s2, s3, s4⟩ := HI.out.says
        rw [s1, s2, s3, s4]
      rw [hdo, hds] at hK
      have hnext : recS s0 ((acts.take (j + 1)).map Ac.bare) = doneS (recS s0 ((acts.take j).map Ac.bare)) X.bare := by
        rw [List.take_add_one, hX, List.map_append]
        exact recS_snoc _ _ _
      obtain ⟨sj, hsj⟩ : ∃ sj, recS s0 ((acts.take j).map Ac.bare) = sj := ⟨_, rfl⟩
      obtain ⟨E, hE⟩ : ∃ E, doE sj X.bare = E := ⟨_, rfl⟩
      rw [hsj] at hK hnext HI5
      rw [hE] at hK
      have HK := hid hK
      have HNX := hid hnext
      have HE := hid hE
      have HS5 := hid hs5
      clear hdo hds hK hnext hsj hE b5 hx5 r3 hX hXm hXn hs5
      go_upto_region 10 with fail
      rw [← hW5]
      clear hW5 e0 e1 e2 e3 e4 e5 e6 e7
      go_wp2_with fail
      refine HK.out.mono ?_
      rintro e w6 ⟨c', n'', ta', tn', tc', ba', bn', bc', rfl, hO, hb⟩
      have hs6 := hb.size
      obtain ⟨W7, hW7⟩ : ∃ W, W = w6.alloc (.cells #[.int .i64 c', .int .i64 n'', .slice ta' tn' tc', .slice ba' bn' bc'] 40) := ⟨_, rfl⟩
      have b7 : Below w6.heap.size w6 W7 := by rw [hW7]; exact (Below.refl _ _).alloc (Nat.le_refl _) _
      have z7' : StBox W7 w6.heap.size (.int .i64 c') (.int .i64 n'') (.slice ta' tn' tc') (.slice ba' bn' bc') := by rw [hW7]; exact StBox.new w6 _ _ _ _
      have HI7 := hid ((HI5.out.later hb).later b7)
      have HO7 := hid (hO.later b7)
      clear y0 y1 y2 y3 z0 z1 z2 z3 z4 z5 z6 z7 hO hb
      obtain ⟨y0, y1, y2, y3⟩ := HI7.out.box.cells
      have yf : ∀ k, W7.frozen? ⟨B, k, none⟩ = false := fun k => frozen_of_row W7 B k _ _ HI7.out.box
      obtain ⟨z0, z1, z2, z3⟩ := z7'.cells
      have HS6 := hid hs6
      by_cases hE0 : E = 0
      · have hE1 : (E == 0) = true := by simpa using hE0
        have HE0 := hid hE0
        clear hE0
        go_upto_region 11 with fail
        rw [← hW7]
        clear hW7 b7 z7' hs6
        go_wp2_with fail
        go_roundg (acts.length - (j + 1))
        case rel =>
          rcases HO7.out with ⟨h1, _⟩ | ⟨_, l9, b9, h2, h3, h4, h5, h6, h7⟩
          · exact absurd HE0.out h1
          · refine ⟨j + 1, c', n'', ta', tn', tc', l9, ba', bn', bc', b9, by go_num, by omega, rfl, ?_⟩
            have hsay : c' = (doS sj X.bare).c ∧ n'' = (doS sj X.bare).n ∧ bareQ l9 = (doS sj X.bare).l ∧ bareB b9 = (doS sj X.bare).b := ⟨h3, h4, h5, h6⟩
            have e9 : recS s0 ((acts.take (j + 1)).map Ac.bare) = doS sj X.bare := by
              rw [HNX.out]
              unfold doneS
              rw [if_pos (by rw [HE.out]; exact HE0.out)]
            rw [e9]
            exact HI7.out.store h2 (h7.mono (by have := HS5.out; omega)) hsay
        case measure => omega
      · have hE1 : (E == 0) = false := by simpa using hE0
        have HE0 := hid hE0
        clear hE0
        go_upto_region 11 with fail
        rw [← hW7]
        clear hW7 b7 z7' hs6
        go_wp2_with fail
        go_roundg (acts.length - (j + 1))
        case rel =>
          refine ⟨j + 1, c, n', ta, tn, tc, lq, ba, bn, bc, bb, by go_num, by omega, rfl, ?_⟩
          have e9 : recS s0 ((acts.take (j + 1)).map Ac.bare) = sj := by
            rw [HNX.out]
            unfold doneS
            rw [if_neg (by rw [HE.out]; exact HE0.out)]
          rw [e9]
          exact HI7.out
        case measure => omega
    · obtain rfl : j = acts.length := by omega
      obtain ⟨y0, y1, y2, y3⟩ := HI.out.box.cells
      obtain ⟨q0, q1, q2, q3⟩ := HI.out.res.cells
      have qf : ∀ k, wr.frozen? ⟨S, k, none⟩ = false := fun k => frozen_of_row wr S k _ _ HI.out.res
      go_wp2
      have hst := four_stores wr S 40 _ _ _ _ (.int .i64 c) (.int .i64 n') (.slice ta tn tc) (.slice ba bn bc) HI.out.res
      have h4 : S ≤ S := Nat.le_refl _
      have hbe := ((((HI.out.below.setCell (p := ⟨S, 0, none⟩) h4 (.int .i64 c)).setCell (p := ⟨S, 1, none⟩) h4 (.int .i64 n')).setCell (p := ⟨S, 2, none⟩) h4 (.slice ta tn tc)).setCell (p := ⟨S, 3, none⟩) h4 (.slice ba bn bc))
      refine bodyPost_ret (v := .tuple #[.agg #[.int .i64 c, .int .i64 n', .slice ta tn tc, .slice ba bn bc], .int .i64 acts.length, .int .i64 0]) (results_row_tmp2 Tryz.results15 _ _ S 40 #[.int .i64 c, .int .i64 n', .slice ta tn tc, .slice ba bn bc] (0, 0) _ rfl hst.1 Tryz.underlying40 rfl (by kernel_rfl)) rfl ⟨c, n', ta, tn, tc, ba, bn, bc, ?_, Or.inr ⟨HH.out.1, lq, bb, ?_, ?_⟩, ?_⟩
      · rw [HH.out.1, HH.out.2.1]
      · exact HI.out.st.stand HI.out.blk (fun k hk => hst.2 k (by omega))
      · rw [HH.out.2.2]
        have hs := HI.out.says
        rw [List.take_length] at hs
        exact ⟨hs.1, hs.2.1, hs.2.2.1, hs.2.2.2, HI.out.blk.new (fun k hk => by rw [HSS.out]; omega)⟩
      · rw [HSS.out]; exact hbe
end Go.Proofs.YtckpdfkobdgjeaaGreatDoor
namespace Go.Proofs.YtckpdfkobdgjeaaGreatDoor
open Go.RowKit
theorem runs_none (w : World) : RunsIn w none 0 0 [] := ⟨rfl, Nat.le_refl _, by omega, by omega, fun h => absurd h (Nat.lt_irrefl _)⟩
def actA (g : Nat) : Ac := ⟨1, 0, plotR g 3 4, none, 0, 0, []⟩
def actB (k n : Int) : Ac := ⟨k, n, ⟨0, 0, 0, 0, none, 0, 0, []⟩, none, 0, 0, []⟩
def sA : ByteArray := ⟨#[1, 0, 3, 2, 30, 4, 2, 4, 3, 5, 6, 0]⟩
def sB : ByteArray := ⟨#[3, 3, 0, 0, 0, 0, 0, 0]⟩
def sC : ByteArray := ⟨#[1]⟩
theorem actA_E (g : Nat) : wrE (actA g) = 0 := by kernel_rfl
theorem actA_S (g : Nat) : wrS (actA g) = sA := by kernel_rfl
theorem actB_E : wrE (actB 3 3) = 0 := by kernel_rfl
theorem actB_S : wrS (actB 3 3) = sB := by kernel_rfl
theorem actC_E : wrE (actB 0 256) = 3 := by kernel_rfl
theorem actC_S : wrS (actB 0 256) = ByteArray.empty := by kernel_rfl
theorem sAB_n : (readF (sA ++ sB ++ sC) 60 0).1.length = 2 := by kernel_rfl
theorem sAB_m : (readF (sA ++ sB ++ sC) 60 0).2 = 20 := by kernel_rfl
theorem sAB_z : (sA ++ sB ++ sC).size = 21 := by kernel_rfl
theorem sAB_E (c : Nat) : recE (fL c 0 6) (sA ++ sB) = 0 := by kernel_rfl
theorem sAB_N (c : Nat) : recN (fL c 0 6) (sA ++ sB) = 2 := by kernel_rfl
theorem sAB_c (c : Nat) : (recSt (fL c 0 6) (sA ++ sB)).c = 3 := by kernel_rfl
theorem sAB_b (c : Nat) : (recSt (fL c 0 6) (sA ++ sB)).b.length = 1 := by kernel_rfl
theorem sAB_do (X : Ac) (hX : X.bare ∈ (readF (sA ++ sB) 60 0).1) : DoIs X := by
  have h1 : (readF (sA ++ sB) 60 0).1.all (fun y => y.kind == 1 || y.kind == 3) = true := by kernel_rfl
  have h2 := List.all_eq_true.1 h1 X.bare hX
  intro w c n ta tn tc l ba bn bc b h hx hn
  by_cases k1 : X.kind = 1
  · exact Do_k1 w c n ta tn tc l ba bn bc b h X hx hn k1
  · have k3 : X.kind = 3 := by
      have h3 : (X.kind == 1 || X.kind == 3) = true := h2
      simp only [Bool.or_eq_true, beq_iff_eq] at h3
      exact h3.resolve_left k1
    exact Do_k3 w c n ta tn tc l ba bn bc b h X hx hn k3
theorem Told.laters {w w' : World} {v : Value} (h : Told w v) (hb : Below w.heap.size w w') : Told w' v := h.below rfl hb
set_option maxRecDepth 100000 in
set_option maxHeartbeats 8000000 in
theorem logBegun_any (w : World) (v : Value) (hv : Told w v) : Calls Tryz.prog 13 #[] w fun e w' => e = .returned (.bool true) ∧ Below w.heap.size w w' := by
  have HV := hid hv
  clear hv
  obtain ⟨tA, hA⟩ : ∃ tA, tA = sA := ⟨_, rfl⟩
  obtain ⟨tB, hB⟩ : ∃ tB, tB = sB := ⟨_, rfl⟩
  have zA : tA.size = 12 := by rw [hA]; rfl
  have zB : tB.size = 8 := by rw [hB]; rfl
  have HA := hid hA
  have HB := hid hB
  clear hA hB
  go_enter Tryz.func13, Tryz.ntmps13
  go_wp2_with fail
  refine (plot_any w 4).mono ?_
  rintro e w1 ⟨rfl, hr, hb⟩
  have HB1 := hid hb
  have K1 := Write_any w1 (actA (w.heap.size + 1)) ⟨hr, runs_none _⟩
  rw [actA_E, actA_S, ← HA.out] at K1
  have HK1 := hid K1
  clear hr hb K1
  go_wp2_with fail
  refine HK1.out.mono ?_
  rintro e w2 ⟨rfl, hb⟩
  have HB2 := hid (below_from HB1.out hb)
  have K2 := Write_any w2 (actB 3 3) ⟨runs_none _, runs_none _⟩
  rw [actB_E, actB_S, ← HB.out] at K2
  have HK2 := hid K2
  clear hb K2
  go_wp2_with fail
  refine HK2.out.mono ?_
  rintro e w3 ⟨rfl, hb⟩
  have HB3 := hid (below_from HB2.out hb)
  have HK3 := hid (Replay_any w3 (tA ++ tB ++ sC) v (HV.out.laters HB3.out))
  clear hb
  go_wp2_with fail
  refine HK3.out.mono ?_
  rintro e w4 ⟨hb, ⟨h4, rfl⟩ | ⟨h4, u, acts, m, rfl, hrow, heach, hread, h60, hend⟩⟩
  · exfalso
    rw [HA.out, HB.out, sAB_z] at h4
    omega
  have HB4 := hid (below_from HB3.out hb)
  have hRF : readF (tA ++ tB ++ sC) 60 0 = (acts.map Ac.bare, m) := hread.is h60 hend
  rw [HA.out, HB.out] at hRF
  have hm : m = 20 := by have := sAB_m; rw [hRF] at this; exact this
  have hl : acts.length = 2 := by have := sAB_n; rw [hRF] at this; simpa using this
  obtain ⟨ua, uc, rfl⟩ := row_form hrow
  rw [hl, hm]
  clear hb h4 hrow heach hread h60 hend hRF hm hl
  go_wp2_with fail
  refine (field_any w4).mono ?_
  rintro e w5 ⟨rfl, hF, hb⟩
  have HB5 := hid (below_from HB4.out hb)
  have HK5 := hid (Recover_by w5 _ 4 4 _ hF.qs (tA ++ tB) v (HV.out.laters HB5.out) (by rw [HA.out, HB.out]; exact sAB_do))
  clear hF hb
  go_wp2_with fail
  refine HK5.out.mono ?_
  rintro e w6 ⟨c', n', ta', tn', tc', ba', bn', bc', rfl, hO, hb⟩
  rw [HA.out, HB.out, sAB_E, sAB_N]
  rw [HA.out, HB.out, sAB_E] at hO
  have HB6 := hid (below_from HB5.out hb)
  rcases hO with ⟨h0, _⟩ | ⟨_, lq, bb, hs, hc, hn, hlq, hbb, _⟩
  · exact absurd rfl h0
  have hc3 : c' = 3 := hc.trans (sAB_c _)
  have hb1 : bn' = 1 := by
    have h1 := congrArg List.length hbb
    rw [len_bareB, sAB_b] at h1
    rw [hs.2.len, h1]
  subst hc3
  subst hb1
  obtain ⟨Q, hQ⟩ : ∃ Q, w6.heap.size = Q := ⟨_, rfl⟩
  obtain ⟨W7, hW7⟩ : ∃ W, W = w6.alloc (.cells #[.int .i64 3, .int .i64 n', .slice ta' tn' tc', .slice ba' 1 bc'] 40) := ⟨_, rfl⟩
  have b7 : Below w6.heap.size w6 W7 := by rw [hW7]; exact (Below.refl _ _).alloc (Nat.le_refl _) _
  have x7 : StBox W7 Q (.int .i64 3) (.int .i64 n') (.slice ta' tn' tc') (.slice ba' 1 bc') := by rw [hW7, ← hQ]; exact StBox.new w6 _ _ _ _
  have HB7 := hid (below_from HB6.out b7)
  have HX7 := hid x7
  have K8 := Write_any W7 (actB 0 256) ⟨runs_none _, runs_none _⟩
  rw [actC_E, actC_S] at K8
  have HK8 := hid K8
  clear hs hc hn hlq hbb hb b7 x7 K8
  go_upto_region 5 with fail
  rw [← hW7]
  clear hW7
  go_wp2_with fail
  refine HK8.out.mono ?_
  rintro e w8 ⟨rfl, hb⟩
  have HB8 := hid (below_from HB7.out hb)
  have HX8 := hid (HX7.out.later hb)
  clear hb
  go_wp2_with fail
  refine (farm_any w8).mono ?_
  rintro e w9 ⟨c1, d1, e1, rfl, hF, hb, _⟩
  have HB9 := hid (below_from HB8.out hb)
  have HX9 := hid (HX8.out.later hb)
  have K9 := Do_k0 w9 5 6 _ 4 4 _ _ 2 2 _ hF.st (actB 0 0) ⟨runs_none _, runs_none _⟩ (by show 0 ≤ _; omega) (show ¬ ((0 : Int) = 1) by decide) (show ¬ ((0 : Int) = 2) by decide) (show ¬ ((0 : Int) = 3) by decide) (show ¬ ((0 : Int) = 4) by decide)
  rw [show doE ⟨5, 6, faL c1 10, faB d1 e1⟩ (actB 0 0) = 7 by kernel_rfl] at K9
  have HK9 := hid K9
  clear hF hb K9
  go_wp2_with fail
  refine HK9.out.mono ?_
  rintro e w10 ⟨c2, n2, ta2, tn2, tc2, ba2, bn2, bc2, rfl, _, hb⟩
  have HB10 := hid (below_from HB9.out hb)
  have HX10 := hid (HX9.out.later hb)
  obtain ⟨W11, hW11⟩ : ∃ W, W = w10.alloc (.cells #[.int .i64 c2, .int .i64 n2, .slice ta2 tn2 tc2, .slice ba2 bn2 bc2] 40) := ⟨_, rfl⟩
  have b11 : Below w10.heap.size w10 W11 := by rw [hW11]; exact (Below.refl _ _).alloc (Nat.le_refl _) _
  have HB11 := hid (below_from HB10.out b11)
  have HX11 := hid (HX10.out.later b11)
  obtain ⟨q0, q1, q2, q3⟩ := HX11.out.cells
  clear hb b11
  go_upto_region 7 with fail
  rw [← hW11]
  clear hW11
  go_wp2
  go_ret
  exact ⟨rfl, HB11.out⟩
end Go.Proofs.YtckpdfkobdgjeaaGreatDoor
