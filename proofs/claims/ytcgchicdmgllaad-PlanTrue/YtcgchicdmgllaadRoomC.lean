/- room.Of's two answers, whatever comes in; plain facts on room: at each time it is the least that is left of a line's queues. -/
import Derived.Test.YtcgchicdmgllaadRoomA
import Derived.Test.YtcgchicdmgllaadLoadM
namespace Go.Proofs.Ytcgchicdmgllaad
open Go.RowKit Go.Shelf

attribute [local go_sem] Oper.semAt_some

/-- E1's errors -/
def roomE (l : QL) (b : BL) (q : Int) : Int := if chkL l b = 0 then (if 0 ≤ q ∧ q < l.length then 0 else 6) else chkL l b

set_option maxRecDepth 100000 in
theorem RoomOf_bad (w : World) (a : Option Addr) (n cap : Nat) (l : QL) (hl : QsIn w a n cap l) (ba : Option Addr) (bn bc : Nat) (b : BL) (hb : BksIn w ba bn bc b) (q : Int) (he : roomE l b q ≠ 0) :
    Calls Try.prog 9 #[.slice a n cap, .slice ba bn bc, .int .i64 q] w fun e w' => Gives w w' e ([], roomE l b q) := by
  have hcb := hl.capb
  have hle := hl.le
  have HN := hid hl.len
  have hb0 : Below w.heap.size w (w.alloc (.cells #[.slice a n cap] 22)) := (Below.refl _ _).alloc (Nat.le_refl _) _
  have hK := Of_any _ _ n cap l (hl.later hb0) ba bn bc b (hb.later hb0)
  have HB0 := hid hb0
  have bL0 : Hid (Boxed (w.alloc (.cells #[.slice a n cap] 22)) w.heap.size 22 (.slice a n cap)) := Boxed.new w 22 (.slice a n cap)
  have cL0 := bL0.out.cell
  clear hl hb hb0
  by_cases hc : chkL l b = 0
  · have hE : roomE l b q = 6 := by
      unfold roomE at he ⊢
      rw [if_pos hc] at he ⊢
      by_cases h : 0 ≤ q ∧ q < l.length
      · rw [if_pos h] at he; exact absurd rfl he
      · rw [if_neg h]
    have hq : q < 0 ∨ (n : Int) ≤ q := by
      unfold roomE at he
      rw [if_pos hc] at he
      by_cases h : 0 ≤ q ∧ q < l.length
      · rw [if_pos h] at he; exact absurd rfl he
      · have := HN.out; omega
    rw [hE]
    rw [hc] at hK
    have HK := hid hK
    clear hK hE he hc
    by_cases hq0 : q < 0
    · clear hq
      refine (callsIn_wide (n := 4)).1 ?_
      refine callsIn_of_wp_marks Try.func9 rfl trivial ?_ rfl
      simp only [Try.ntmps9, List.size_toArray, List.length_cons, List.length_nil, Nat.reduceAdd, Nat.reduceSub, Array.replicate_succ, Array.replicate_zero, List.push_toArray, List.append_toArray, List.nil_append, List.cons_append]
      gi_wp2_with fail
      refine ⟨trivial, (callsIn_wide.2 HK.out).mono ?_⟩
      rintro e w1 ⟨a1, m1, k1, rfl, ht, _, B1⟩
      have HB1 := hid (below_from HB0.out B1)
      have hsz1 : w.heap.size ≤ w1.heap.size := HB1.out.size
      clear ht B1 cL0
      gi_wp2
      exact ⟨_, results_tmp2 rfl _ _ _, none, 0, 0, rfl, runsIn_nil _, HB1.out.alloc (by omega) _⟩
    · have hq1 : (n : Int) ≤ q := by omega
      clear hq
      refine (callsIn_wide (n := 4)).1 ?_
      refine callsIn_of_wp_marks Try.func9 rfl trivial ?_ rfl
      simp only [Try.ntmps9, List.size_toArray, List.length_cons, List.length_nil, Nat.reduceAdd, Nat.reduceSub, Array.replicate_succ, Array.replicate_zero, List.push_toArray, List.append_toArray, List.nil_append, List.cons_append]
      gi_wp2_with fail
      refine ⟨trivial, (callsIn_wide.2 HK.out).mono ?_⟩
      rintro e w1 ⟨a1, m1, k1, rfl, ht, _, B1⟩
      have HB1 := hid (below_from HB0.out B1)
      have bL1 : Hid (Boxed w1 w.heap.size 22 (.slice a n cap)) := (B1.block _ (by simp)).trans bL0.out
      have cL1 := bL1.out.cell
      have hsz1 : w.heap.size < w1.heap.size := bL1.out.lt
      clear ht B1 cL0
      gi_wp2
      exact ⟨_, results_tmp2 rfl _ _ _, none, 0, 0, rfl, runsIn_nil _, HB1.out.alloc (by omega) _⟩
  · have hE : roomE l b q = chkL l b := if_neg hc
    rw [hE]
    obtain ⟨er, her⟩ : ∃ er, chkL l b = er := ⟨_, rfl⟩
    rw [her] at hK hc
    rw [her]
    have hne : (er != 0) = true := by simp [hc]
    have HK := hid hK
    clear hK hE he her hc
    refine (callsIn_wide (n := 4)).1 ?_
    refine callsIn_of_wp_marks Try.func9 rfl trivial ?_ rfl
    simp only [Try.ntmps9, List.size_toArray, List.length_cons, List.length_nil, Nat.reduceAdd, Nat.reduceSub, Array.replicate_succ, Array.replicate_zero, List.push_toArray, List.append_toArray, List.nil_append, List.cons_append]
    gi_wp2_with fail
    refine ⟨trivial, (callsIn_wide.2 HK.out).mono ?_⟩
    rintro e w1 ⟨a1, m1, k1, rfl, ht, _, B1⟩
    have HB1 := hid (below_from HB0.out B1)
    have hsz1 : w.heap.size ≤ w1.heap.size := HB1.out.size
    clear ht B1 cL0
    gi_wp2
    exact ⟨_, results_tmp2 rfl _ _ _, none, 0, 0, rfl, runsIn_nil _, HB1.out.alloc (by omega) _⟩

theorem RoomOf_any (w : World) (a : Option Addr) (n cap : Nat) (l : QL) (hl : QsIn w a n cap l) (ba : Option Addr) (bn bc : Nat) (b : BL) (hb : BksIn w ba bn bc b) (q : Int) :
    Calls Try.prog 9 #[.slice a n cap, .slice ba bn bc, .int .i64 q] w fun e w' => Gives w w' e (if roomE l b q = 0 then roomR l b q else [], roomE l b q) := by
  by_cases he : roomE l b q = 0
  · have hc : chkL l b = 0 := by
      unfold roomE at he
      by_cases h : chkL l b = 0
      · exact h
      · rw [if_neg h] at he; exact he
    have hq : 0 ≤ q ∧ q < l.length := by
      unfold roomE at he
      rw [if_pos hc] at he
      by_cases h : 0 ≤ q ∧ q < l.length
      · exact h
      · rw [if_neg h] at he; simp at he
    rw [if_pos he, he]
    exact RoomOf_ok w a n cap l hl ba bn bc b hb q hc hq.1 (by rw [hl.len]; exact hq.2)
  · rw [if_neg he]
    exact RoomOf_bad w a n cap l hl ba bn bc b hb q he
end Go.Proofs.Ytcgchicdmgllaad
