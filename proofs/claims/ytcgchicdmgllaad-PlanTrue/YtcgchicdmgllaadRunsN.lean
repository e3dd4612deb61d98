/- Contract of Bump once more: what it answers lies in new memory. -/
import Derived.Test.YtcgchicdmgllaadRunsD
namespace Go.Proofs.Ytcgchicdmgllaad
open Go.RowKit

/-- a call has answered runs and an error's number; the runs lie in memory that it made -/
def GivesN (w w' : World) (e : Ending) (r : RunL × Int) : Prop := ∃ a n cap, e = .returned (.tuple #[.slice a n cap, .int .i64 r.2]) ∧ RunsIn w' a n cap r.1 ∧ Below w.heap.size w w' ∧ ∀ b off, a = some ⟨b, off, none⟩ → w.heap.size ≤ b
theorem givesN_err {w w' : World} {er : Int} (hb : Below w.heap.size w w') : GivesN w w' (.returned (.tuple #[.slice none 0 0, .int .i64 er])) ([], er) := ⟨none, 0, 0, rfl, runsIn_nil _, hb, fun _ _ e => by cases e⟩
theorem lay_givesN (k : Nat) (jn : Int → Int → Int) (hj : JoinsBy k jn) (w : World) (a1 a2 : Option Addr) (n1 cap1 n2 cap2 : Nat) (l1 l2 : RunL) (h1 : RunsIn w a1 n1 cap1 l1) (h2 : RunsIn w a2 n2 cap2 l2)
   (r1 : Rises l1) (r2 : Rises l2) (d1 : ∀ i, i < n1 → bdd (rN l1 i) = true) (d2 : ∀ i, i < n2 → bdd (rN l2 i) = true) :
   Calls Try.prog 66 #[.slice a1 n1 cap1, .slice a2 n2 cap2, .func (.func k) #[] #[]] w fun e w' => GivesN w w' e (tell (jv jn l1 l2)) := by
  have p1 : 0 < n1 := by rw [h1.len]; exact r1.1
  have p2 : 0 < n2 := by rw [h2.len]; exact r2.1
  obtain ⟨b1, o1, rfl, _⟩ := h1.cells p1
  obtain ⟨b2, o2, rfl, _⟩ := h2.cells p2
  refine (lay_any k jn hj w b1 o1 n1 cap1 b2 o2 n2 cap2 l1 l2 h1 h2 r1 r2 d1 d2).mono ?_
  rintro e w' (⟨ha, v, rfl, ho, hb⟩ | ⟨ha, rfl, hb⟩)
  · obtain ⟨a, cap, rfl, hr, _, hg⟩ := ho.parts (foldTo_len _ 48)
    have : tell (jv jn l1 l2) = (foldTo (jv jn l1 l2) 48, 0) := by simp [tell, ha]
    rw [this]
    refine ⟨a, _, cap, rfl, hr, hb, fun b off e => ?_⟩
    obtain ⟨g, ha, hge, _⟩ := hg (foldTo_ok _ 48 (by omega)).1
    rw [e] at ha
    cases ha
    exact hge
  · have : tell (jv jn l1 l2) = ([], 2) := by simp [tell, ha]
    rw [this]
    exact givesN_err hb

set_option maxHeartbeats 400000 in
theorem Bump_new (w : World) (a0 : Option Addr) (n0 cap0 : Nat) (l : RunL) (a b n : Int) (h : RunsIn w a0 n0 cap0 l) :
   Calls Try.prog 55 #[.slice a0 n0 cap0, .int .i64 a, .int .i64 b, .int .i64 n] w fun e w' => GivesN w w' e (bumpR l a b n) := by
  cases hf : fine l with
  | false =>
    have hr : bumpR l a b n = ([], 1) := by simp [bumpR, hf]
    rw [hr]
    have hk : chk l = 1 := by simp [chk, hf]
    go_enter Try.func55, Try.ntmps55
    go_wp2_with fail
    refine (Check_any _ _ _ _ l h).mono ?_
    rintro e w1 ⟨rfl, hb⟩
    rw [hk]
    go_wp2
    go_ret2
    exact givesN_err hb
  | true =>
    have hk : chk l = 0 := by simp [chk, hf]
    cases hs : spn a b with
    | false =>
      have hr : bumpR l a b n = ([], 3) := by simp [bumpR, hf, hs]
      rw [hr]
      go_enter Try.func55, Try.ntmps55
      go_wp2_with fail
      refine (Check_any _ _ _ _ l h).mono ?_
      rintro e w1 ⟨rfl, hb⟩
      rw [hk]
      go_wp2_with (go_at_call 37; refine (span_any _ _ _).mono ?_; rintro e w' ⟨rfl, rfl⟩; rw [hs])
      go_ret2
      exact givesN_err hb
    | true =>
      cases hn : bdd n with
      | false =>
        have hr : bumpR l a b n = ([], 3) := by simp [bumpR, hf, hn]
        rw [hr]
        go_enter Try.func55, Try.ntmps55
        go_wp2_with fail
        refine (Check_any _ _ _ _ l h).mono ?_
        rintro e w1 ⟨rfl, hb⟩
        rw [hk]
        go_wp2_with (first | (go_at_call 37; refine (span_any _ _ _).mono ?_; rintro e w' ⟨rfl, rfl⟩; rw [hs]) | (go_at_call 69; refine (bounded_any _ _).mono ?_; rintro e w' ⟨rfl, rfl⟩; rw [hn]))
        go_ret2
        exact givesN_err hb
      | true =>
        have hsp := of_decide_eq_true hs
        have hr : bumpR l a b n = tell (jv (fun x y => x + y) l [(0, 0), (a, n), (b, 0)]) := by rw [bump_tell]; simp [bumpR, hf, hs, hn]
        rw [hr]
        have F1 := hid (fine_iff.1 hf)
        have HS := hid hsp
        obtain ⟨r, hr2⟩ : ∃ r, r = tell (jv (fun x y => x + y) l [(0, 0), (a, n), (b, 0)]) := ⟨_, rfl⟩
        rw [← hr2]
        have HR := hid hr2
        clear hr2 hr hf hsp
        go_enter Try.func55, Try.ntmps55
        go_wp2_with fail
        refine (Check_any _ _ _ _ l h).mono ?_
        rintro e w1 ⟨rfl, hb⟩
        rw [hk]
        go_wp2_with (first | (go_at_call 37; refine (span_any _ _ _).mono ?_; rintro e w' ⟨rfl, rfl⟩; rw [hs]) | (go_at_call 69; refine (bounded_any _ _).mono ?_; rintro e w' ⟨rfl, rfl⟩; rw [hn]))
        have hb2 : Below w'.heap.size w' (w'.alloc (.cells #[.int .i64 0, .int .i64 0, .int .i64 a, .int .i64 n, .int .i64 b, .int .i64 0] 70)) := (Below.refl _ _).alloc (Nat.le_refl _) _
        have hl := lay_givesN 78 _ joins54 _ a0 (some ⟨w'.heap.size, 0, none⟩) n0 cap0 3 3 l [(0, 0), (a, n), (b, 0)] ((h.later hb).later hb2) (runs_lit w' [(0, 0), (a, n), (b, 0)] _ 3 rfl rfl (by simp)) F1.out.rises (more_rises HS.out.1 HS.out.2.1) (fun i hi => F1.out.bdd (by rw [← h.len]; exact hi)) (fun i hi => by
          match i, hi with
          | 0, _ => rfl
          | 1, _ => exact hn
          | 2, _ => rfl)
        rw [← HR.out] at hl
        refine hl.mono ?_
        clear hl
        rintro e w3 ⟨a', n', cap', rfl, hr, hb3, hnew⟩
        go_wp2
        go_ret2
        exact ⟨a', n', cap', rfl, hr, below_from (below_from hb hb2) hb3, fun b off e => by have h1 := hnew b off e; have h2 := hb.size; simp at h1; omega⟩
end Go.Proofs.Ytcgchicdmgllaad
