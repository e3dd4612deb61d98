/- climb.Up once more: each queue that it comes to is one of the queues. -/
import Derived.Test.YtcgchicdmgllaadTreeH
namespace Go.Proofs.Ytcgchicdmgllaad
open Go.RowKit Go.Shelf

attribute [local go_sem] Oper.semAt_some

/-- a queue's number -/
abbrev QN (N : Nat) := { x : Int // 0 ≤ x ∧ x < N }

set_option maxRecDepth 100000 in
set_option maxHeartbeats 1000000 in
theorem upQ_in (F : Fence) (n : Nat) (h68 : F.fn 64) (hro : F.round = none) (hn : 1 ≤ n) (lp Bq Bl n₀ b off N cap : Nat) (l : QL) (q : Int) (hR : Right l) (hN : N = l.length) (hqN : q < N) (J Jx : List (QN N) → World → Prop)
    (hY : ∀ pre x W, J pre W → pre.length < 5 → YieldAt F (n - 1) Try.prog lp #[.int .i64 x.1] W fun e W' =>
      (e = .returned (.bool true) ∧ J (pre ++ [x]) W' ∧ KeepsL n₀ Bl W W') ∨ (e = .returned (.bool false) ∧ Jx (pre ++ [x]) W'))
    (W : World) (hBq : W.cell? ⟨Bq, 0, none⟩ = some (.int .i64 q)) (hBl : Boxed W Bl 22 (.slice (some ⟨b, off, none⟩) N cap)) (hb : b < n₀)
    (hc : ∀ i, i < N → W.cell? ⟨b, off + i * 3 + 1, none⟩ = some (.int .i64 (qu l i).parent)) (h0 : J [] W) :
    CallsIn F n Try.prog 64 #[.func (.yield lp) #[] #[], .pointer (some ⟨Bq, 0, none⟩), .pointer (some ⟨Bl, 0, none⟩)] W fun e W' => (∃ v, e = .returned v) ∧
      ((∃ ys : List (QN N), ys.map (·.1) = lineOf l q ∧ J ys W') ∨ (∃ pre : List (QN N), True ∧ Jx pre W')) := by
  have HR := hid hR
  have HN := hid hN
  have HC := hid hc
  clear hR hN hc
  refine callsIn_of_wp Try.func64 rfl h68 ?_ hro
  simp only [Try.ntmps64, List.size_toArray, List.length_cons, List.length_nil, Nat.reduceAdd, Nat.reduceSub, Array.replicate_succ, Array.replicate_zero, List.push_toArray, List.append_toArray, List.nil_append, List.cons_append]
  gi_wp2
  gi_loopw [4] (fun p wr => ∃ (pre : List (QN N)) (x : Int), p = .int .i64 x ∧ x < N ∧ pre.map (·.1) ++ lineOf l x = lineOf l q ∧ Boxed wr Bl 22 (.slice (some ⟨b, off, none⟩) N cap) ∧ Below n₀ W wr ∧ J pre wr)
    (fun p _ => (intOf p + 1).toNat)
  case atStart => exact ⟨[], q, rfl, hqN, rfl, hBl, Below.refl _ _, h0⟩
  case round =>
    obtain ⟨pre, x, rfl, hxN, heq, hbox, hbel, hJ⟩ := hrel
    have HE := hid heq
    have HB := hid hbel
    clear heq hbel
    by_cases hx0 : 0 ≤ x
    · obtain ⟨P, rfl⟩ := Int.eq_ofNat_of_zero_le hx0
      have hPN : P < N := by omega
      have hPN' : (P : Int) < N := by omega
      have hpar := HR.out.par P (by have := HN.out; omega)
      have hst := hid (line_step HR.out (q := (P : Int)) (by omega) (by have := HN.out; omega))
      rw [Int.toNat_natCast] at hst
      have hlen : pre.length < 5 := by
        have h1 := line_len l q
        rw [← HE.out, hst.out] at h1
        simp at h1; omega
      obtain ⟨m, hm⟩ : ∃ m, (qu l P).parent = m := ⟨_, rfl⟩
      have HM := hid hm
      rw [hm] at hpar hst
      clear hm
      obtain ⟨fn, tmps, assign, body, hy, hRR⟩ := hY pre ⟨(P : Int), hx0, hPN'⟩ wr hJ hlen
      gi_wp2
      refine hRR.mono ?_
      rintro e W3 (⟨rfl, hJ3, hk3⟩ | ⟨rfl, hJx3⟩)
      · have hbox3 := hk3.2 _ hbox
        have hb3 := HB.out.trans hk3.1
        have c1 : W3.cell? ⟨b, off + P * 3 + 1, none⟩ = some (.int .i64 m) := (hb3.cell (p := ⟨b, off + P * 3 + 1, none⟩) hb).trans (by rw [HC.out P hPN, HM.out])
        have cbl := hbox3.cell
        have HB3 := hid hb3
        clear hb3
        gi_wp2
        go_roundw
        case rel => exact ⟨pre ++ [⟨(P : Int), hx0, hPN'⟩], m, rfl, by omega, by rw [← HE.out, hst.out]; simp, hbox3, HB3.out, hJ3⟩
        case measure => simp [intOf]; omega
      · gi_wp2
        refine bodyPost_ret (results_none rfl _ _ _) rfl ?_
        exact ⟨⟨_, rfl⟩, .inr ⟨pre ++ [⟨(P : Int), hx0, hPN'⟩], trivial, hJx3⟩⟩
    · have hln := line_nil (l := l) (q := x) (by omega)
      have HE2 : Hid (pre.map (·.1) = lineOf l q) := by have := HE.out; rw [hln, List.append_nil] at this; exact this
      gi_wp2
      go_end0
      exact ⟨⟨_, rfl⟩, .inl ⟨pre, HE2.out, hJ⟩⟩

theorem upQ_stops (F : Fence) (n : Nat) (h68 : F.fn 64) (hro : F.round = none) (hn : 1 ≤ n) (Bq Bl n₀ b off N cap : Nat) (l : QL) (q : Int) (hR : Right l) (hN : N = l.length) (hqN : q < N) (w : World)
    (hBq : Boxed w Bq 3 (.int .i64 q)) (hBl : Boxed w Bl 22 (.slice (some ⟨b, off, none⟩) N cap)) (hn₀ : n₀ ≤ w.heap.size) (hb : b < n₀)
    (hc : ∀ i, i < N → w.cell? ⟨b, off + i * 3 + 1, none⟩ = some (.int .i64 (qu l i).parent)) :
    SeqStopsK F n Try.prog 64 #[.pointer (some ⟨Bq, 0, none⟩), .pointer (some ⟨Bl, 0, none⟩)] (fun x : QN N => #[Value.int .i64 x.1]) (KeepsL n₀ Bl) (fun ys => ys.map (·.1) = lineOf l q) (fun _ => True) 5 w := fun lp J Jx W hW _ _ hY h0 =>
  upQ_in F n h68 hro hn lp Bq Bl n₀ b off N cap l q hR hN hqN J Jx hY W ((hW.cell (p := ⟨Bq, 0, none⟩) hBq.lt).trans hBq.cell) ((hW.block Bl hBl.lt).trans hBl) hb
    (fun i hi => (hW.cell (p := ⟨b, off + i * 3 + 1, none⟩) (Nat.lt_of_lt_of_le hb hn₀)).trans (hc i hi)) h0
end Go.Proofs.Ytcgchicdmgllaad
