/- Plain, for BookFree: who cancels makes room for what he had. -/
import Derived.Test.YtcgchicdmgllaaeBookF
namespace Go.Proofs.Ytcgchicdmgllaae

theorem id_of2 {c n : Int} {l : QL} {b : BL} (h : Sound c n l b) {j : Nat} (hj : j < b.length) : bookAt b (bk b j).id = some j := by
  refine findFrom_at (fun s hs => ?_) hj (by simp)
  have := ids_rise h hj hs
  simp
  omega
theorem chk_of {l : QL} {x : Bk} (h : chkB l x = 0) : chkQR l x.rq = 0 := by
  unfold chkB at h
  by_cases h1 : chkQR l x.rq = 0
  · exact h1
  · rw [if_neg h1] at h
    exact absurd h h1
/-- H1: the same request finds a place again, or is late, or there are no more Ids -/
theorem free_sub {c n : Int} {l l' : QL} {b b9 : BL} {i : Nat} (h : Sound c n l b) (hi : i < b.length) (hl : bareQ l' = bareQ l) (hb : bareB b9 = bareB (b.take i ++ b.drop (i + 1))) (hk : (bk b i).rq.kind ≠ 1) :
    subE c n l' b9 (bk b i).rq = 0 ∨ subE c n l' b9 (bk b i).rq = 9 ∨ subE c n l' b9 (bk b i).rq = 2 := by
  have hw := without_sound h hi
  have hp : planE c n l' b9 = 0 := (planE_same hl hb).trans (planE_ok hw)
  have hc := h.clean.each i hi
  have hq : chkQR l' (bk b i).rq = 0 := by rw [← chkQR_bare', hl, chkQR_bare']; exact chk_of hc
  obtain ⟨hm, q0, q1⟩ := no_error_at h.clean.tree hc
  have e1 : seekE c n l' b9 (bk b i).rq = if (bk b i).rq.fr < c then 9 else 0 := by
    unfold seekE
    rw [if_pos hp, if_pos hq]
  by_cases hf : (bk b i).rq.fr < c
  · rw [if_pos hf] at e1
    right; left
    unfold subE
    rw [e1, if_neg (by decide)]
  · rw [if_neg hf] at e1
    by_cases h2 : 12 ≤ b9.length ∨ 1048576 ≤ n
    · right; right
      unfold subE
      rw [if_pos e1, if_pos h2]
    · left
      have eR : roomR l' b9 (bk b i).rq.queue = roomR l (b.take i ++ b.drop (i + 1)) (bk b i).rq.queue := by rw [← roomR_bare, hl, hb, roomR_bare]
      have hh := free_held h hi (by omega)
      rw [← eR] at hh
      have hC := (sound_of hp).clean
      have hlen : l'.length = l.length := by rw [← len_bareQ, hl, len_bareQ]
      have er : roomE l' b9 (bk b i).rq.queue = 0 := by
        unfold roomE
        rw [if_pos (chkL_clean hC), if_pos ⟨q0, by omega⟩]
      have e0 : placeErr (roomR l' b9 (bk b i).rq.queue) (bk b i).rq = 0 := by
        unfold placeErr
        rw [if_pos (fine_iff.2 (room_fine hC (by omega)))]
        exact (meets_split.1 hm).1
      obtain ⟨x, hx, _⟩ := find_sure e0 hk hm hh
      have h3 : (placeR l' b9 (bk b i).rq).2 = true := by
        unfold placeR
        rw [if_pos er, if_pos e0, hx]
      unfold subE
      rw [if_pos e1, if_neg h2, if_pos h3]
end Go.Proofs.Ytcgchicdmgllaae
