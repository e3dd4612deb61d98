/- book.Submit, whatever comes in; who is refused as full has no place. -/
import Derived.Test.YtcgchicdmgllaafBookD
namespace Go.Proofs.Ytcgchicdmgllaaf
open Go.RowKit

def SubAny (w w' : World) (e : Ending) (E : Int) : Prop := ∃ (i1 i2 : Int) (s1 : Option Addr) (n1 k1 : Nat) (s2 : Option Addr) (n2 k2 : Nat) (x : Int), e = .returned (.tuple #[.agg #[.int .i64 i1, .int .i64 i2, .slice s1 n1 k1, .slice s2 n2 k2], .int .i64 x, .int .i64 E]) ∧ Below w.heap.size w w'
theorem Submit_any (w : World) (c n : Int) (ta : Option Addr) (tn tc : Nat) (l : QL) (ba : Option Addr) (bn bc : Nat) (b : BL) (h : StIn w ta tn tc l ba bn bc b) (r : Rq) (hr : RqIn w r) :
    Calls Try.prog 8 #[.agg #[.int .i64 c, .int .i64 n, .slice ta tn tc, .slice ba bn bc], .agg #[.int .i64 r.queue, .int .i64 r.fr, .int .i64 r.un, .int .i64 r.kind, .slice r.pa r.pn r.pc]] w fun e w' => SubAny w w' e (subE c n l b r) := by
  have hbn := h.2.len
  by_cases h1 : seekE c n l b r = 0
  · by_cases h2 : 12 ≤ b.length ∨ 1048576 ≤ n
    · have e2 : subE c n l b r = 2 := by unfold subE; rw [if_pos h1, if_pos h2]
      rw [e2]
      refine (Submit_many w c n ta tn tc l ba bn bc b h r hr h1 (by omega)).mono ?_
      rintro e w' ⟨rfl, hb⟩
      exact ⟨0, 0, none, 0, 0, none, 0, 0, 0, rfl, hb⟩
    · by_cases h3 : (placeR l b r).2 = true
      · have e2 : subE c n l b r = 0 := by unfold subE; rw [if_pos h1, if_neg h2, if_pos h3]
        rw [e2]
        refine (Submit_ok w c n ta tn tc l ba bn bc b h r hr e2).mono ?_
        rintro e w' ⟨g, k1, l', g9, k9, b9, rfl, _, _, _, hb⟩
        exact ⟨c, n + 1, some ⟨g, 0, none⟩, tn, k1, some ⟨g9, 0, none⟩, bn + 1, k9, n, rfl, hb⟩
      · have e2 : subE c n l b r = 8 := by unfold subE; rw [if_pos h1, if_neg h2, if_neg h3]
        rw [e2]
        refine (Submit_full w c n ta tn tc l ba bn bc b h r hr h1 (by omega) (by omega) (by simpa using h3)).mono ?_
        rintro e w' ⟨rfl, hb⟩
        exact ⟨0, 0, none, 0, 0, none, 0, 0, 0, rfl, hb⟩
  · have e2 : subE c n l b r = seekE c n l b r := if_neg h1
    rw [e2]
    refine (Submit_wrong w c n ta tn tc l ba bn bc b h r hr h1).mono ?_
    rintro e w' ⟨rfl, hb⟩
    exact ⟨0, 0, none, 0, 0, none, 0, 0, 0, rfl, hb⟩

theorem chkT_ne8 (l : QL) : chkT l ≠ 8 := by unfold chkT; (repeat' split) <;> decide
theorem chkR_ne8 (m : Bool) (r : Rq) : chkR m r ≠ 8 := by unfold chkR; (repeat' split) <;> decide
theorem chkQR_ne8 (l : QL) (r : Rq) : chkQR l r ≠ 8 := by
  unfold chkQR
  split
  · exact chkR_ne8 _ _
  · exact chkT_ne8 _
theorem ers_ne8 (k : Nat) : ers k ≠ 8 := by
  unfold ers
  rcases k with _ | _ | _ | _ | _ | k <;> simp
theorem firstE_ne8 (l : QL) (b : BL) : ∀ m k, firstE l b k m ≠ 8
  | 0, _ => by simp [firstE]
  | m + 1, k => by
    rw [firstE]
    split
    · exact firstE_ne8 l b m _
    · exact ers_ne8 k
theorem chkL_ne8 (l : QL) (b : BL) : chkL l b ≠ 8 := by
  unfold chkL
  split
  · split
    · exact firstE_ne8 _ _ _ _
    · decide
  · exact chkT_ne8 _
theorem planE_ne8 (c n : Int) (l : QL) (b : BL) : planE c n l b ≠ 8 := by
  unfold planE
  split
  · (repeat' split) <;> decide
  · exact chkL_ne8 _ _
theorem full_at {c n : Int} {l : QL} {b : BL} {r : Rq} (h : subE c n l b r = 8) : seekE c n l b r = 0 ∧ (placeR l b r).2 = false := by
  unfold subE at h
  split at h
  · rename_i h1
    split at h
    · cases h
    · split at h
      · cases h
      · rename_i h3
        exact ⟨h1, by simpa using h3⟩
  · exfalso
    unfold seekE at h
    split at h
    · split at h
      · split at h <;> cases h
      · exact chkQR_ne8 _ _ h
    · exact planE_ne8 _ _ _ _ h
/-- F2, H1: who is refused as full has no place -/
theorem full_no {c n : Int} {l : QL} {b : BL} {r : Rq} {bs : RunL} (h : subE c n l b r = 8) (hk : r.kind ≠ 1) (hm : meets r bs = true) : Clean l b ∧ (0 ≤ r.queue ∧ r.queue < l.length) ∧ heldB (roomR l b r.queue) r bs = false := by
  obtain ⟨h1, h2⟩ := full_at h
  obtain ⟨p1, p2, p3⟩ := seek_ok h1
  have hC := (sound_of p1).clean
  have hq := (no_error_at (x := ⟨n, r, none, 0, 0, bs⟩) hC.tree (by unfold chkB; rw [if_pos p2, if_pos hm])).2
  refine ⟨hC, hq, ?_⟩
  by_cases hh : heldB (roomR l b r.queue) r bs = true
  · have e0 : placeErr (roomR l b r.queue) r = 0 := by
      unfold placeErr
      rw [if_pos (fine_iff.2 (room_fine hC hq.2))]
      exact (meets_split.1 hm).1
    obtain ⟨x, hx, _⟩ := find_sure e0 hk hm hh
    have er : roomE l b r.queue = 0 := by
      unfold roomE
      rw [if_pos (chkL_clean hC), if_pos hq]
    unfold placeR at h2
    rw [if_pos er, if_pos e0, hx] at h2
    cases h2
  · simpa using hh
end Go.Proofs.Ytcgchicdmgllaaf
