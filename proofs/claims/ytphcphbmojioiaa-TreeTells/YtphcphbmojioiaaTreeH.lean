/- Contracts of tree.up, whose answer goes up a line, and of tree.Line, which ranges over it. -/
import Derived.Test.YtphcphbmojioiaaTreeG
import Derived.RangeFuncNested
import Derived.RangeFuncBox
import Derived.RangeFuncLeaves
import Derived.Shelf.Abstract
import Derived.WalkKit
import Derived.OwnWalkIn
import Derived.TacticsInMore
import Derived.LoopNIn
import Derived.LoopIn
import Derived.Maps.AppendAt
namespace Go.Proofs.Ytphcphbmojioiaa
open Go.RowKit Go.Shelf

attribute [local go_sem] Oper.semAt_some

/-- what a round keeps: old memory, and the box in which the queues lie -/
def KeepsL (n₀ Bl : Nat) (A B : World) : Prop := Below n₀ A B ∧ ∀ v, Boxed A Bl 37 v → Boxed B Bl 37 v
theorem KeepsL.trans {n₀ Bl : Nat} {A B C : World} (h : KeepsL n₀ Bl A B) (k : KeepsL n₀ Bl B C) : KeepsL n₀ Bl A C := ⟨h.1.trans k.1, fun v hv => k.2 v (h.2 v hv)⟩
theorem keepsL_b {n₀ Bl : Nat} {w : World} (hn : n₀ ≤ w.heap.size) (W : World) (l : Nat) (o o' : Obj) (hl : w.heap.size ≤ l) (h : W.heap[l]? = some o) (h1 : o.isCells = false) (h2 : o.isWalk = false) : KeepsL n₀ Bl W (W.putObj l o') :=
  ⟨belowK_b hn W l o o' hl h h1 h2, fun v hv => hv.kept (grownBy_putObj' W l o') (fun e => by
    injection e with e
    subst e
    rw [show W.heap[Bl]? = _ from hv] at h
    cases h
    cases h1)⟩

theorem up_in (F : Fence) (n : Nat) (h57 : F.fn 57) (hro : F.round = none) (v : Value) (q : Int) (w : World) (hv : ∃ a m c, v = .slice a m c) :
    CallsIn F n Try.prog 57 #[v, .int .i64 q] w fun e w' => e = .returned (.func (.func 68) #[] #[.pointer (some ⟨w.heap.size + 1, 0, none⟩), .pointer (some ⟨w.heap.size, 0, none⟩)]) ∧ w' = (w.alloc (.cells #[v] 37)).alloc (.cells #[.int .i64 q] 3) := by
  obtain ⟨a, m, c, rfl⟩ := hv
  refine callsIn_of_wp Try.func57 rfl h57 ?_ hro
  simp only [Try.ntmps57, List.size_toArray, List.length_cons, List.length_nil, Nat.reduceAdd, Nat.reduceSub, Array.replicate_succ, Array.replicate_zero, List.push_toArray, List.append_toArray, List.nil_append, List.cons_append]
  gi_wp2
  go_ret
  exact ⟨rfl, rfl⟩

set_option maxRecDepth 100000 in
set_option maxHeartbeats 1000000 in
theorem up1_in (F : Fence) (n : Nat) (h68 : F.fn 68) (hro : F.round = none) (hn : 1 ≤ n) (lp Bq Bl n₀ b off N cap : Nat) (l : QL) (q : Int) (hR : Right l) (hN : N = l.length) (hqN : q < N) (J Jx : List Int → World → Prop)
    (hY : ∀ pre x W, J pre W → pre.length < 5 → YieldAt F (n - 1) Try.prog lp #[.int .i64 x] W fun e W' =>
      (e = .returned (.bool true) ∧ J (pre ++ [x]) W' ∧ KeepsL n₀ Bl W W') ∨ (e = .returned (.bool false) ∧ Jx (pre ++ [x]) W'))
    (W : World) (hBq : W.cell? ⟨Bq, 0, none⟩ = some (.int .i64 q)) (hBl : Boxed W Bl 37 (.slice (some ⟨b, off, none⟩) N cap)) (hb : b < n₀)
    (hc : ∀ i, i < N → W.cell? ⟨b, off + i * 3 + 1, none⟩ = some (.int .i64 (qu l i).parent)) (h0 : J [] W) :
    CallsIn F n Try.prog 68 #[.func (.yield lp) #[] #[], .pointer (some ⟨Bq, 0, none⟩), .pointer (some ⟨Bl, 0, none⟩)] W fun e W' => (∃ v, e = .returned v) ∧
      ((∃ ys, ys = lineOf l q ∧ J ys W') ∨ (∃ pre, pre <+: lineOf l q ∧ Jx pre W')) := by
  have HR := hid hR
  have HN := hid hN
  have HC := hid hc
  clear hR hN hc
  refine callsIn_of_wp Try.func68 rfl h68 ?_ hro
  simp only [Try.ntmps68, List.size_toArray, List.length_cons, List.length_nil, Nat.reduceAdd, Nat.reduceSub, Array.replicate_succ, Array.replicate_zero, List.push_toArray, List.append_toArray, List.nil_append, List.cons_append]
  gi_wp2
  gi_loopw [4] (fun p wr => ∃ (pre : List Int) (x : Int), p = .int .i64 x ∧ x < N ∧ pre ++ lineOf l x = lineOf l q ∧ Boxed wr Bl 37 (.slice (some ⟨b, off, none⟩) N cap) ∧ Below n₀ W wr ∧ J pre wr)
    (fun p _ => (intOf p + 1).toNat)
  case atStart => exact ⟨[], q, rfl, hqN, rfl, hBl, Below.refl _ _, h0⟩
  case round =>
    obtain ⟨pre, x, rfl, hxN, heq, hbox, hbel, hJ⟩ := hrel
    have HE := hid heq
    have HB := hid hbel
    clear heq hbel
    by_cases hx0 : 0 ≤ x
    · obtain ⟨P, rfl⟩ := Int.eq_ofNat_of_zero_le hx0
      have hPN : P < N := by omega
      have hPN' : (P : Int) < N := by omega
      have hpar := HR.out.par P (by have := HN.out; omega)
      have hst := hid (line_step HR.out (q := (P : Int)) (by omega) (by have := HN.out; omega))
      rw [Int.toNat_natCast] at hst
      have hlen : pre.length < 5 := by
        have h1 := line_len l q
        rw [← HE.out, hst.out] at h1
        simp at h1; omega
      obtain ⟨m, hm⟩ : ∃ m, (qu l P).parent = m := ⟨_, rfl⟩
      have HM := hid hm
      rw [hm] at hpar hst
      clear hm
      obtain ⟨fn, tmps, assign, body, hy, hRR⟩ := hY pre P wr hJ hlen
      gi_wp2
      refine hRR.mono ?_
      rintro e W3 (⟨rfl, hJ3, hk3⟩ | ⟨rfl, hJx3⟩)
      · have hbox3 := hk3.2 _ hbox
        have hb3 := HB.out.trans hk3.1
        have c1 : W3.cell? ⟨b, off + P * 3 + 1, none⟩ = some (.int .i64 m) := (hb3.cell (p := ⟨b, off + P * 3 + 1, none⟩) hb).trans (by rw [HC.out P hPN, HM.out])
        have cbl := hbox3.cell
        have HB3 := hid hb3
        clear hb3
        gi_wp2
        go_roundw
        case rel => exact ⟨pre ++ [(P : Int)], m, rfl, by omega, by rw [← HE.out, hst.out]; simp, hbox3, HB3.out, hJ3⟩
        case measure => simp [intOf]; omega
      · gi_wp2
        refine bodyPost_ret (results_none rfl _ _ _) rfl ?_
        exact ⟨⟨_, rfl⟩, .inr ⟨pre ++ [(P : Int)], ⟨lineOf l m, by rw [← HE.out, hst.out]; simp⟩, hJx3⟩⟩
    · have hln := line_nil (l := l) (q := x) (by omega)
      have HE2 : Hid (pre = lineOf l q) := by have := HE.out; rw [hln, List.append_nil] at this; exact this
      gi_wp2
      go_end0
      exact ⟨⟨_, rfl⟩, .inl (by rw [← HE2.out]; exact hJ)⟩

/-- up hands back what stops where a round says so, and goes up the whole line else -/
theorem up_stops (F : Fence) (n : Nat) (h68 : F.fn 68) (hro : F.round = none) (hn : 1 ≤ n) (Bq Bl n₀ b off N cap : Nat) (l : QL) (q : Int) (hR : Right l) (hN : N = l.length) (hqN : q < N) (w : World)
    (hBq : Boxed w Bq 3 (.int .i64 q)) (hBl : Boxed w Bl 37 (.slice (some ⟨b, off, none⟩) N cap)) (hn₀ : n₀ ≤ w.heap.size) (hb : b < n₀)
    (hc : ∀ i, i < N → w.cell? ⟨b, off + i * 3 + 1, none⟩ = some (.int .i64 (qu l i).parent)) :
    SeqStopsK F n Try.prog 68 #[.pointer (some ⟨Bq, 0, none⟩), .pointer (some ⟨Bl, 0, none⟩)] (fun x : Int => #[Value.int .i64 x]) (KeepsL n₀ Bl) (fun ys => ys = lineOf l q) (fun pre => pre <+: lineOf l q) 5 w := fun lp J Jx W hW _ _ hY h0 =>
  up1_in F n h68 hro hn lp Bq Bl n₀ b off N cap l q hR hN hqN J Jx hY W ((hW.cell (p := ⟨Bq, 0, none⟩) hBq.lt).trans hBq.cell) ((hW.block Bl hBl.lt).trans hBl) hb
    (fun i hi => (hW.cell (p := ⟨b, off + i * 3 + 1, none⟩) (Nat.lt_of_lt_of_le hb hn₀)).trans (hc i hi)) h0

theorem OwnInts.base {w : World} {B B' : Nat} {v : Value} {l : List Int} (h : OwnInts w B v l) (hb : B' ≤ B) : OwnInts w B' v l := by
  refine ⟨h.1, ?_⟩
  rcases h.2 with h2 | ⟨g, cap, cur, hv, hg, hr⟩
  · exact Or.inl h2
  · exact Or.inr ⟨g, cap, cur, hv, by omega, hr⟩
theorem holdsInts_own (n₀ B : Nat) : Own (fun (pre : List Int) W => ∃ v, Boxed W B 38 v ∧ OwnInts W n₀ v pre) := by
  intro s X Y row ⟨v, hv, hr⟩ hg hrow
  obtain ⟨v', h1, h2, _⟩ := holdsRow_own n₀ B 38 3 1 (fun pre : List Int => pre.length) (fun pre => pre.map (Value.int .i64)) (fun _ _ => True) s X Y row ⟨v, hv, hr, trivial⟩ hg hrow
  exact ⟨v', h1, h2⟩

set_option maxRecDepth 100000 in
set_option maxHeartbeats 2000000 in
theorem Line_ok (w : World) (a : Option Addr) (n cap : Nat) (l : QL) (q : Int) (h : QsIn w a n cap l) (hc : chkT l = 0) (hq0 : 0 ≤ q) (hqn : q < n) :
    Calls Try.prog 26 #[.slice a n cap, .int .i64 q] w fun e w' => ∃ v, e = .returned (.tuple #[v, .int .i64 0]) ∧ OwnInts w' w.heap.size v (lineOf l q) ∧ Below w.heap.size w w' := by
  have HN := hid h.len
  have hcb := h.capb
  have hle := h.le
  have HR := hid (right_of hc)
  have hp : 0 < n := by have := HR.out.pos; have := HN.out; omega
  have h5 : n ≤ 5 := by have := HR.out.five; have := HN.out; omega
  have he : qErr l q = 0 := qErr_ok hc ⟨hq0, by rw [← HN.out]; exact hqn⟩
  obtain ⟨b, off, rfl, hcell⟩ := h.cells hp
  have hblt : b < w.heap.size := block_lt_of_cell (hcell 0 hp).1
  have HC := hid hcell
  clear hcell
  obtain ⟨i0, hi, hz0, hz1, hz2⟩ := info_parts Try.info3
  refine (callsIn_wide (n := 4)).1 ?_
  refine callsIn_of_wp_marks Try.func26 rfl trivial ?_ rfl
  simp only [Try.ntmps26, List.size_toArray, List.length_cons, List.length_nil, Nat.reduceAdd, Nat.reduceSub, Array.replicate_succ, Array.replicate_zero, List.push_toArray, List.append_toArray, List.nil_append, List.cons_append]
  gi_wp2_with fail
  refine ⟨trivial, (callsIn_wide.2 (checkQueue_any w _ n cap l q h)).mono ?_⟩
  rintro e w1 ⟨rfl, B1⟩
  rw [he]
  have HB1 := hid B1
  have hblt1 : b < w1.heap.size := Nat.lt_of_lt_of_le hblt B1.size
  have hsz1 := B1.size
  have HC1 : Hid (∀ i, i < n → w1.cell? ⟨b, off + i * 3 + 1, none⟩ = some (.int .i64 (qu l i).parent)) := fun i hi => cell_later B1 (HC.out i hi).2.1
  clear B1
  gi_wp2_with fail
  refine ⟨trivial, (up_in Fence.wide _ trivial rfl _ _ _ ⟨_, _, _, rfl⟩).mono ?_⟩
  rintro e w2 ⟨rfl, rfl⟩
  gi_wp2_with fail
  have bO := Boxed.new w1 38 (.slice none 0 0)
  have bL := Boxed.new (w1.alloc (.cells #[.slice none 0 0] 38)) 37 (.slice (some ⟨b, off, none⟩) n cap)
  have bQ := Boxed.new ((w1.alloc (.cells #[.slice none 0 0] 38)).alloc (.cells #[.slice (some ⟨b, off, none⟩) n cap] 37)) 3 (.int .i64 q)
  rw [World.size_alloc] at bL
  rw [World.size_alloc, World.size_alloc] at bQ
  have hB0 : Below w1.heap.size w1 (((w1.alloc (.cells #[.slice none 0 0] 38)).alloc (.cells #[.slice (some ⟨b, off, none⟩) n cap] 37)).alloc (.cells #[.int .i64 q] 3)) := (((Below.refl _ w1).alloc (Nat.le_refl _) _).alloc (by simp) _).alloc (by simp; omega) _
  have hsz : (((w1.alloc (.cells #[.slice none 0 0] 38)).alloc (.cells #[.slice (some ⟨b, off, none⟩) n cap] 37)).alloc (.cells #[.int .i64 q] 3)).heap.size = w1.heap.size + 3 := by simp
  obtain ⟨W0, hW0⟩ : ∃ W0, ((w1.alloc (.cells #[.slice none 0 0] 38)).alloc (.cells #[.slice (some ⟨b, off, none⟩) n cap] 37)).alloc (.cells #[.int .i64 q] 3) = W0 := ⟨_, rfl⟩
  have bO' := (bO.alloc (.cells #[.slice (some ⟨b, off, none⟩) n cap] 37)).alloc (.cells #[.int .i64 q] 3)
  have bL' := bL.alloc (.cells #[.int .i64 q] 3)
  rw [hW0] at hsz hB0 bO' bL' bQ ⊢
  clear hW0 bO bL
  refine wpIn_rangeFunc_ownG (F := Fence.wide) rfl (by omega) (gf := 68) (lb := #[.pointer (some ⟨w1.heap.size + 1 + 1, 0, none⟩), .pointer (some ⟨w1.heap.size + 1, 0, none⟩)]) rfl trivial (enters_of Try.func68 (by kernel_rfl) rfl)
    (up_stops Fence.wide _ trivial rfl (by omega) (w1.heap.size + 1 + 1) (w1.heap.size + 1) w1.heap.size b off n cap l q HR.out HN.out hqn W0 bQ bL' (by omega) hblt1 (fun i hi => cell_later hB0 (HC1.out i hi)))
    KeepsL.trans (keepsL_b (by omega)) (Below.refl _ _) (fun _ => rfl)
    (fun pre W => (∃ v, Boxed W w1.heap.size 38 v ∧ OwnInts W w1.heap.size v pre) ∧ Below w1.heap.size w1 W)
    (fun _ _ _ => False)
    (OwnFrom.and (Own.from (holdsInts_own w1.heap.size w1.heap.size) _) (ownFrom_below (Nat.le_refl _) (by omega)))
    (fun _ _ _ _ _ hs _ _ => hs)
    ⟨⟨_, bO', World.ownsRow_nil _ _ _ _⟩, hB0⟩
    (fun x => { tmps := #[.slice (some ⟨b, off, none⟩) n cap, .int .i64 q, undef, undef, .slice none 0 0, .int .i64 0, .int .i64 0, .pointer (some ⟨w1.heap.size, 0, none⟩), .int .i64 x, .slice (some ⟨b, off, none⟩) n cap, .int .i64 q, .int .i64 0, .int .i64 0, .bool false, undef, .slice (some ⟨b, off, none⟩) n cap, .int .i64 q, .func (.func 68) #[] #[.pointer (some ⟨w1.heap.size + 1 + 1, 0, none⟩), .pointer (some ⟨w1.heap.size + 1, 0, none⟩)], .int .i64 x, undef, undef, undef, undef, undef], defers := [] }) ?assign ?body ?done ?stop
  case assign =>
    intro l x W K hK
    gi_wp2
    exact hK
  case body =>
    rintro lp pre x W ⟨⟨v, hv, hrow⟩, hB⟩ hlt
    have hcv := hv.cell
    have HB := hid hB
    have hBs := hB.size
    clear hB
    gi_wp2_with (gi_at_builtin; refine wpListIn_append_own _ rfl _ _ 38 rfl w1.heap.size 3 i0 (.int .i64 0) 1 8 Try.underlying38 hi hz0 hz1 hz2 rfl (by decide) _ _ _ rfl (hrow.alloc _) ⟨W.heap.size, 0, none⟩ 1 1 [.int .i64 x] rfl rfl (cell_one_new _ _ _) (by simp [Value.oneCell']) (by simp only [maxLen]; omega) (by omega) (by simp; omega) ?_; intro v' w3 hown' hgrow _; obtain ⟨g', cap', rfl⟩ := ownsRow_succ hown'; obtain ⟨hv1, hv2, hr2, hk2, hb2⟩ := hv.appended (by decide) hrow hBs (Nat.le_refl _) hown' hgrow; have hc1 := hv1.cell; have hf1 := hv1.frozen)
    refine ⟨hk2.from _, ⟨hb2, fun u hu => ?_⟩, ⟨⟨_, hv2, ?_⟩, HB.out.trans hb2⟩⟩
    · have hu1 : Boxed w3 (w1.heap.size + 1) 37 u := (hu.alloc _).kept hgrow (hu.not_row (by decide) hrow)
      exact hu1.other (by omega) _
    · unfold OwnInts; simpa using hr2
  case done =>
    rintro D ys W hD rfl ⟨⟨v, hv, hrow⟩, hB⟩ hK
    have hcv := hv.cell
    have HB := hid hB
    clear hB
    gi_wp2
    refine ⟨by simp, .inl ⟨_, _, rfl, run_takeDeferred hK, ?_⟩⟩
    exact ⟨_, results_tmp2 rfl _ _ _, v, rfl, OwnInts.base (ownsRow_putObj hrow _ hK rfl) hsz1, below_from HB1.out (HB.out.trans (belowK_b (w := w1) (Nat.le_refl _) W D _ _ (by omega) hK rfl rfl))⟩
  case stop =>
    rintro D c pre W _ _ h _
    exact h.elim

/-- Line's two answers, in new memory -/
def GivesInts (w w' : World) (e : Ending) (r : List Int) (er : Int) : Prop := ∃ a n cap, e = .returned (.tuple #[.slice a n cap, .int .i64 er]) ∧ IntsIn w' a n cap r ∧ Below w.heap.size w w'
def lineR (l : QL) (q : Int) : List Int := if qErr l q = 0 then lineOf l q else []
theorem qErr_zero {l : QL} {q : Int} (h : qErr l q = 0) : chkT l = 0 ∧ 0 ≤ q ∧ q < l.length := by
  unfold qErr at h
  by_cases h1 : chkT l = 0
  · rw [if_pos h1] at h
    by_cases h2 : 0 ≤ q ∧ q < l.length
    · exact ⟨h1, h2⟩
    · rw [if_neg h2] at h; omega
  · rw [if_neg h1] at h; exact absurd h h1

set_option maxRecDepth 100000 in
theorem Line_any (w : World) (a : Option Addr) (n cap : Nat) (l : QL) (q : Int) (h : QsIn w a n cap l) :
    Calls Try.prog 26 #[.slice a n cap, .int .i64 q] w fun e w' => GivesInts w w' e (lineR l q) (qErr l q) := by
  by_cases he : qErr l q = 0
  · obtain ⟨h1, h2, h3⟩ := qErr_zero he
    refine (Line_ok w a n cap l q h h1 h2 (by rw [h.len]; exact h3)).mono ?_
    rintro e w' ⟨v, rfl, ho, hb⟩
    obtain ⟨a', cap', rfl, hi⟩ := ho.parts
    rw [lineR, if_pos he, he]
    exact ⟨a', _, cap', rfl, hi, hb⟩
  · have hne : (qErr l q != 0) = true := by simp [he]
    rw [lineR, if_neg he]
    refine (callsIn_wide (n := 4)).1 ?_
    refine callsIn_of_wp_marks Try.func26 rfl trivial ?_ rfl
    simp only [Try.ntmps26, List.size_toArray, List.length_cons, List.length_nil, Nat.reduceAdd, Nat.reduceSub, Array.replicate_succ, Array.replicate_zero, List.push_toArray, List.append_toArray, List.nil_append, List.cons_append]
    gi_wp2_with fail
    refine ⟨trivial, (callsIn_wide.2 (checkQueue_any w _ n cap l q h)).mono ?_⟩
    rintro e w1 ⟨rfl, B1⟩
    have HB1 := hid B1
    clear B1
    gi_wp2
    exact ⟨_, results_tmp2 rfl _ _ _, none, 0, 0, rfl, intsIn_nil _, HB1.out⟩
end Go.Proofs.Ytphcphbmojioiaa
