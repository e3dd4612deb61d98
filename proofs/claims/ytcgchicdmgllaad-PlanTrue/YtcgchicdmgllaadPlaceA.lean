/- Contract of room.First: the soonest time from which on there is room. -/
import Derived.Test.YtcgchicdmgllaadPlaceM
import Derived.OwnWalk
namespace Go.Proofs.Ytcgchicdmgllaad
open Go.RowKit

set_option maxHeartbeats 1000000 in
theorem First_ok (w : World) (a : Option Addr) (n cap : Nat) (f : RunL) (h : RunsIn w a n cap f) (hf : fine f = true) (fr un size m : Int) (F U L : Nat) (eF : fr = F) (eU : un = U) (eL : size = L) (hFU : F < U) (hU : U ≤ 48) (hL : 1 ≤ L) (hL2 : L ≤ 24) :
    Calls Try.prog 106 #[.slice a n cap, .int .i64 fr, .int .i64 un, .int .i64 size, .int .i64 m] w fun e w' => e = .returned (.tuple #[.int .i64 (firstR f fr un size m).1, .bool (firstR f fr un size m).2.1, .int .i64 (firstR f fr un size m).2.2]) ∧ Below w.heap.size w w' := by
  have hk : chk f = 0 := by simp [chk, hf]
  have hs : (spn F U && wth L 1 24) = true := by simp [spn, wth]; omega
  have HS := hid hs
  have HF := hid hf
  have HK := hid hk
  have HH := hid h
  clear hs hf hk h
  obtain ⟨x, hx⟩ : ∃ x, firstR f fr un size m = x := ⟨_, rfl⟩
  rw [hx]
  rw [eF, eU, eL] at hx
  have HX := hid hx
  have g1 : ¬ fr < 0 := by omega
  have g2 : ¬ un ≤ fr := by omega
  have g3 : ¬ 48 < un := by omega
  have g4 : ¬ size < 1 := by omega
  have g5 : ¬ 24 < size := by omega
  have EF := hid eF
  have EU := hid eU
  have EL := hid eL
  clear hx eF eU eL
  go_enter Try.func106, Try.ntmps106
  go_wp2_with fail
  refine (Check_any w a n cap f HH.out).mono ?_
  rintro e w1 ⟨rfl, hb⟩
  rw [HK.out]
  have HB1 := hid hb
  clear hb
  go_wp2_with fail
  go_loopw [14] (fun st wr => ∃ t : Nat, st = .int .i64 t ∧ F ≤ t ∧ t ≤ U ∧ firstO f F U L m = findFrom (roomy f U L m) t (U - t) ∧ Below w.heap.size w wr) (fun st _ => U - (intOf st).toNat)
  case atStart => exact ⟨F, by rw [EF.out], Nat.le_refl _, by omega, rfl, HB1.out⟩
  case round =>
    obtain ⟨t, rfl, h1, h2, h3, h4⟩ := hrel
    have H3 := hid h3
    have H4 := hid h4
    clear h3 h4
    by_cases hlt : t + L ≤ U
    · have hlt' : (t : Int) + size ≤ un := by have := EU.out; have := EL.out; omega
      have HLE := hid (leastR_at HF.out (t := t) (L := L) (by omega) (by omega))
      rw [← EL.out] at HLE
      obtain ⟨low, hlow⟩ : ∃ low, lowTo (vals f) t L = low := ⟨_, rfl⟩
      rw [hlow] at HLE
      have HLW := hid hlow
      clear hlow
      go_wp2_with fail
      have K := Least_any wr a n cap f (t : Int) ((t : Int) + size) (HH.out.later H4.out)
      rw [HLE.out] at K
      refine K.mono ?_
      clear K
      rintro e w2 ⟨rfl, hb⟩
      have HB2 := hid (below_from H4.out hb)
      clear hb
      by_cases hm : m ≤ low
      · have HR : Hid (firstR f F U L m = ((t : Int), true, 0)) := firstR_hit HF.out HS.out (H3.out.trans (findFrom_hit (by omega) (by rw [roomy, decide_eq_true hlt, HLW.out, decide_eq_true hm]; rfl)))
        go_wp2
        go_ret3
        exact ⟨by rw [← HX.out, HR.out]; rfl, HB2.out⟩
      · go_wp2
        go_roundw
        case rel => exact ⟨t + 1, by go_num, by omega, by omega, by rw [H3.out, findFrom_miss (by omega) (by rw [roomy, HLW.out, decide_eq_false (show ¬ m ≤ low by omega), Bool.and_false])]; rfl, HB2.out⟩
        case measure => simp [intOf]; omega
    · have hlt' : ¬ (t : Int) + size ≤ un := by have := EU.out; have := EL.out; omega
      have HR : Hid (firstR f F U L m = (0, false, 0)) := firstR_miss HF.out HS.out (H3.out.trans (findFrom_no fun s g1 g2 => by rw [roomy, decide_eq_false (by omega), Bool.false_and]))
      go_wp2
      go_ret3
      exact ⟨by rw [← HX.out, HR.out]; rfl, H4.out⟩

set_option maxHeartbeats 1000000 in
theorem First_any (w : World) (a : Option Addr) (n cap : Nat) (f : RunL) (h : RunsIn w a n cap f) (fr un size m : Int) :
    Calls Try.prog 106 #[.slice a n cap, .int .i64 fr, .int .i64 un, .int .i64 size, .int .i64 m] w fun e w' => e = .returned (.tuple #[.int .i64 (firstR f fr un size m).1, .bool (firstR f fr un size m).2.1, .int .i64 (firstR f fr un size m).2.2]) ∧ Below w.heap.size w w' := by
  cases hf : fine f with
  | false =>
    have hv : firstR f fr un size m = (0, false, 1) := by simp [firstR, hf]
    have hk : chk f = 1 := by simp [chk, hf]
    rw [hv]
    go_enter Try.func106, Try.ntmps106
    go_wp2_with fail
    refine (Check_any w a n cap f h).mono ?_
    rintro e w1 ⟨rfl, hb⟩
    rw [hk]
    go_wp2
    go_ret3
    exact ⟨rfl, hb⟩
  | true =>
    by_cases hs : 0 ≤ fr ∧ fr < un ∧ un ≤ 48 ∧ 1 ≤ size ∧ size ≤ 24
    · obtain ⟨h1, h2, h3, h4, h5⟩ := hs
      exact First_ok w a n cap f h hf fr un size m fr.toNat un.toNat size.toNat (by omega) (by omega) (by omega) (by omega) (by omega) (by omega) (by omega)
    · have hv : firstR f fr un size m = (0, false, 3) := by
        have : (spn fr un && wth size 1 24) = false := by
          rw [Bool.eq_false_iff]
          simp [spn, wth]; omega
        simp [firstR, hf, this]
      have hk : chk f = 0 := by simp [chk, hf]
      rw [hv]
      by_cases g1 : fr < 0
      · go_enter Try.func106, Try.ntmps106
        go_wp2_with fail
        refine (Check_any w a n cap f h).mono ?_
        rintro e w1 ⟨rfl, hb⟩
        rw [hk]
        go_wp2
        go_ret3
        exact ⟨rfl, hb⟩
      by_cases g2 : un ≤ fr
      · go_enter Try.func106, Try.ntmps106
        go_wp2_with fail
        refine (Check_any w a n cap f h).mono ?_
        rintro e w1 ⟨rfl, hb⟩
        rw [hk]
        go_wp2
        go_ret3
        exact ⟨rfl, hb⟩
      by_cases g3 : 48 < un
      · go_enter Try.func106, Try.ntmps106
        go_wp2_with fail
        refine (Check_any w a n cap f h).mono ?_
        rintro e w1 ⟨rfl, hb⟩
        rw [hk]
        go_wp2
        go_ret3
        exact ⟨rfl, hb⟩
      by_cases g4 : size < 1
      · go_enter Try.func106, Try.ntmps106
        go_wp2_with fail
        refine (Check_any w a n cap f h).mono ?_
        rintro e w1 ⟨rfl, hb⟩
        rw [hk]
        go_wp2
        go_ret3
        exact ⟨rfl, hb⟩
      · have g5 : 24 < size := by omega
        clear hs
        go_enter Try.func106, Try.ntmps106
        go_wp2_with fail
        refine (Check_any w a n cap f h).mono ?_
        rintro e w1 ⟨rfl, hb⟩
        rw [hk]
        go_wp2
        go_ret3
        exact ⟨rfl, hb⟩
end Go.Proofs.Ytcgchicdmgllaad
