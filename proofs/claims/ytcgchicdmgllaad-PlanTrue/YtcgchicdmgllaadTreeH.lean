/- Contracts of tree.up, whose answer goes up a line, and of tree.Line, which ranges over it. -/
import Derived.Test.YtcgchicdmgllaadTreeG
import Derived.RangeFuncNested
import Derived.RangeFuncBox
import Derived.RangeFuncLeaves
import Derived.Shelf.Abstract
import Derived.WalkKit
import Derived.OwnWalkIn
import Derived.TacticsInMore
import Derived.LoopNIn
import Derived.LoopIn
import Derived.Maps.AppendAt
namespace Go.Proofs.Ytcgchicdmgllaad
open Go.RowKit Go.Shelf

attribute [local go_sem] Oper.semAt_some

/-- what a round keeps: old memory, and the box in which the queues lie -/
def KeepsL (n₀ Bl : Nat) (A B : World) : Prop := Below n₀ A B ∧ ∀ v, Boxed A Bl 22 v → Boxed B Bl 22 v
theorem KeepsL.trans {n₀ Bl : Nat} {A B C : World} (h : KeepsL n₀ Bl A B) (k : KeepsL n₀ Bl B C) : KeepsL n₀ Bl A C := ⟨h.1.trans k.1, fun v hv => k.2 v (h.2 v hv)⟩
theorem keepsL_b {n₀ Bl : Nat} {w : World} (hn : n₀ ≤ w.heap.size) (W : World) (l : Nat) (o o' : Obj) (hl : w.heap.size ≤ l) (h : W.heap[l]? = some o) (h1 : o.isCells = false) (h2 : o.isWalk = false) : KeepsL n₀ Bl W (W.putObj l o') :=
  ⟨belowK_b hn W l o o' hl h h1 h2, fun v hv => hv.kept (grownBy_putObj' W l o') (fun e => by
    injection e with e
    subst e
    rw [show W.heap[Bl]? = _ from hv] at h
    cases h
    cases h1)⟩

theorem up_in (F : Fence) (n : Nat) (h57 : F.fn 33) (hro : F.round = none) (v : Value) (q : Int) (w : World) (hv : ∃ a m c, v = .slice a m c) :
    CallsIn F n Try.prog 33 #[v, .int .i64 q] w fun e w' => e = .returned (.func (.func 64) #[] #[.pointer (some ⟨w.heap.size + 1, 0, none⟩), .pointer (some ⟨w.heap.size, 0, none⟩)]) ∧ w' = (w.alloc (.cells #[v] 22)).alloc (.cells #[.int .i64 q] 3) := by
  obtain ⟨a, m, c, rfl⟩ := hv
  refine callsIn_of_wp Try.func33 rfl h57 ?_ hro
  simp only [Try.ntmps33, List.size_toArray, List.length_cons, List.length_nil, Nat.reduceAdd, Nat.reduceSub, Array.replicate_succ, Array.replicate_zero, List.push_toArray, List.append_toArray, List.nil_append, List.cons_append]
  gi_wp2
  go_ret
  exact ⟨rfl, rfl⟩

set_option maxRecDepth 100000 in
set_option maxHeartbeats 1000000 in
theorem up1_in (F : Fence) (n : Nat) (h68 : F.fn 64) (hro : F.round = none) (hn : 1 ≤ n) (lp Bq Bl n₀ b off N cap : Nat) (l : QL) (q : Int) (hR : Right l) (hN : N = l.length) (hqN : q < N) (J Jx : List Int → World → Prop)
    (hY : ∀ pre x W, J pre W → pre.length < 5 → YieldAt F (n - 1) Try.prog lp #[.int .i64 x] W fun e W' =>
      (e = .returned (.bool true) ∧ J (pre ++ [x]) W' ∧ KeepsL n₀ Bl W W') ∨ (e = .returned (.bool false) ∧ Jx (pre ++ [x]) W'))
    (W : World) (hBq : W.cell? ⟨Bq, 0, none⟩ = some (.int .i64 q)) (hBl : Boxed W Bl 22 (.slice (some ⟨b, off, none⟩) N cap)) (hb : b < n₀)
    (hc : ∀ i, i < N → W.cell? ⟨b, off + i * 3 + 1, none⟩ = some (.int .i64 (qu l i).parent)) (h0 : J [] W) :
    CallsIn F n Try.prog 64 #[.func (.yield lp) #[] #[], .pointer (some ⟨Bq, 0, none⟩), .pointer (some ⟨Bl, 0, none⟩)] W fun e W' => (∃ v, e = .returned v) ∧
      ((∃ ys, ys = lineOf l q ∧ J ys W') ∨ (∃ pre, pre <+: lineOf l q ∧ Jx pre W')) := by
  have HR := hid hR
  have HN := hid hN
  have HC := hid hc
  clear hR hN hc
  refine callsIn_of_wp Try.func64 rfl h68 ?_ hro
  simp only [Try.ntmps64, List.size_toArray, List.length_cons, List.length_nil, Nat.reduceAdd, Nat.reduceSub, Array.replicate_succ, Array.replicate_zero, List.push_toArray, List.append_toArray, List.nil_append, List.cons_append]
  gi_wp2
  gi_loopw [4] (fun p wr => ∃ (pre : List Int) (x : Int), p = .int .i64 x ∧ x < N ∧ pre ++ lineOf l x = lineOf l q ∧ Boxed wr Bl 22 (.slice (some ⟨b, off, none⟩) N cap) ∧ Below n₀ W wr ∧ J pre wr)
    (fun p _ => (intOf p + 1).toNat)
  case atStart => exact ⟨[], q, rfl, hqN, rfl, hBl, Below.refl _ _, h0⟩
  case round =>
    obtain ⟨pre, x, rfl, hxN, heq, hbox, hbel, hJ⟩ := hrel
    have HE := hid heq
    have HB := hid hbel
    clear heq hbel
    by_cases hx0 : 0 ≤ x
    · obtain ⟨P, rfl⟩ := Int.eq_ofNat_of_zero_le hx0
      have hPN : P < N := by omega
      have hPN' : (P : Int) < N := by omega
      have hpar := HR.out.par P (by have := HN.out; omega)
      have hst := hid (line_step HR.out (q := (P : Int)) (by omega) (by have := HN.out; omega))
      rw [Int.toNat_natCast] at hst
      have hlen : pre.length < 5 := by
        have h1 := line_len l q
        rw [← HE.out, hst.out] at h1
        simp at h1; omega
      obtain ⟨m, hm⟩ : ∃ m, (qu l P).parent = m := ⟨_, rfl⟩
      have HM := hid hm
      rw [hm] at hpar hst
      clear hm
      obtain ⟨fn, tmps, assign, body, hy, hRR⟩ := hY pre P wr hJ hlen
      gi_wp2
      refine hRR.mono ?_
      rintro e W3 (⟨rfl, hJ3, hk3⟩ | ⟨rfl, hJx3⟩)
      · have hbox3 := hk3.2 _ hbox
        have hb3 := HB.out.trans hk3.1
        have c1 : W3.cell? ⟨b, off + P * 3 + 1, none⟩ = some (.int .i64 m) := (hb3.cell (p := ⟨b, off + P * 3 + 1, none⟩) hb).trans (by rw [HC.out P hPN, HM.out])
        have cbl := hbox3.cell
        have HB3 := hid hb3
        clear hb3
        gi_wp2
        go_roundw
        case rel => exact ⟨pre ++ [(P : Int)], m, rfl, by omega, by rw [← HE.out, hst.out]; simp, hbox3, HB3.out, hJ3⟩
        case measure => simp [intOf]; omega
      · gi_wp2
        refine bodyPost_ret (results_none rfl _ _ _) rfl ?_
        exact ⟨⟨_, rfl⟩, .inr ⟨pre ++ [(P : Int)], ⟨lineOf l m, by rw [← HE.out, hst.out]; simp⟩, hJx3⟩⟩
    · have hln := line_nil (l := l) (q := x) (by omega)
      have HE2 : Hid (pre = lineOf l q) := by have := HE.out; rw [hln, List.append_nil] at this; exact this
      gi_wp2
      go_end0
      exact ⟨⟨_, rfl⟩, .inl (by rw [← HE2.out]; exact hJ)⟩

/-- up hands back what stops where a round says so, and goes up the whole line else -/
theorem up_stops (F : Fence) (n : Nat) (h68 : F.fn 64) (hro : F.round = none) (hn : 1 ≤ n) (Bq Bl n₀ b off N cap : Nat) (l : QL) (q : Int) (hR : Right l) (hN : N = l.length) (hqN : q < N) (w : World)
    (hBq : Boxed w Bq 3 (.int .i64 q)) (hBl : Boxed w Bl 22 (.slice (some ⟨b, off, none⟩) N cap)) (hn₀ : n₀ ≤ w.heap.size) (hb : b < n₀)
    (hc : ∀ i, i < N → w.cell? ⟨b, off + i * 3 + 1, none⟩ = some (.int .i64 (qu l i).parent)) :
    SeqStopsK F n Try.prog 64 #[.pointer (some ⟨Bq, 0, none⟩), .pointer (some ⟨Bl, 0, none⟩)] (fun x : Int => #[Value.int .i64 x]) (KeepsL n₀ Bl) (fun ys => ys = lineOf l q) (fun pre => pre <+: lineOf l q) 5 w := fun lp J Jx W hW _ _ hY h0 =>
  up1_in F n h68 hro hn lp Bq Bl n₀ b off N cap l q hR hN hqN J Jx hY W ((hW.cell (p := ⟨Bq, 0, none⟩) hBq.lt).trans hBq.cell) ((hW.block Bl hBl.lt).trans hBl) hb
    (fun i hi => (hW.cell (p := ⟨b, off + i * 3 + 1, none⟩) (Nat.lt_of_lt_of_le hb hn₀)).trans (hc i hi)) h0

theorem OwnInts.base {w : World} {B B' : Nat} {v : Value} {l : List Int} (h : OwnInts w B v l) (hb : B' ≤ B) : OwnInts w B' v l := by
  refine ⟨h.1, ?_⟩
  rcases h.2 with h2 | ⟨g, cap, cur, hv, hg, hr⟩
  · exact Or.inl h2
  · exact Or.inr ⟨g, cap, cur, hv, by omega, hr⟩
/-- Line's two answers, in new memory -/
def GivesInts (w w' : World) (e : Ending) (r : List Int) (er : Int) : Prop := ∃ a n cap, e = .returned (.tuple #[.slice a n cap, .int .i64 er]) ∧ IntsIn w' a n cap r ∧ Below w.heap.size w w'
def lineR (l : QL) (q : Int) : List Int := if qErr l q = 0 then lineOf l q else []
theorem qErr_zero {l : QL} {q : Int} (h : qErr l q = 0) : chkT l = 0 ∧ 0 ≤ q ∧ q < l.length := by
  unfold qErr at h
  by_cases h1 : chkT l = 0
  · rw [if_pos h1] at h
    by_cases h2 : 0 ≤ q ∧ q < l.length
    · exact ⟨h1, h2⟩
    · rw [if_neg h2] at h; omega
  · rw [if_neg h1] at h; exact absurd h h1

end Go.Proofs.Ytcgchicdmgllaad
