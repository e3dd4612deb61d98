/- RoomTrue: whatever queues, books and numbers it is handed, the call returns true, and its arguments read afterwards as they read before. -/
import Derived.Test.YtlkaamgmjgkpaacRoomB
import Derived.Test.YtlkaamgmjgkpaacRoomD
import Derived.Test.YtlkaamgmjgkpaacFrameB
namespace Go.Proofs.Ytlkaamgmjgkpaac
open Go.ChangeShapes Go.WideShapes Go.ChangeAt Go.RowKit

set_option maxRecDepth 100000 in
set_option maxHeartbeats 4000000 in
theorem RoomTrue_walk (w : World) (a : Option Addr) (n cap : Nat) (l : QL) (hl : QsIn w a n cap l) (ba : Option Addr) (bn bc : Nat) (b : BL) (hb : BksIn w ba bn bc b) (q fr L m : Int) :
    Calls Try.prog 4 #[.slice a n cap, .slice ba bn bc, .int .i64 q, .int .i64 fr, .int .i64 L, .int .i64 m] w fun e w' => e = .returned (.bool true) ∧ Below w.heap.size w w' := by
  have HK := RoomOf_any w a n cap l hl ba bn bc b hb q
  have hle := hl.le
  have hcb := hl.capb
  have HN := hid hl.len
  by_cases he : roomE l b q = 0
  · rw [if_pos he, he] at HK
    have hc : chkL l b = 0 := by
      unfold roomE at he
      by_cases h : chkL l b = 0
      · exact h
      · rw [if_neg h] at he; exact he
    have hq : 0 ≤ q ∧ q < l.length := by
      unfold roomE at he
      rw [if_pos hc] at he
      by_cases h : 0 ≤ q ∧ q < l.length
      · exact h
      · rw [if_neg h] at he; simp at he
    have HCL := hid (clean_of hc)
    obtain ⟨Q, rfl⟩ := Int.eq_ofNat_of_zero_le hq.1
    have hQn : Q < n := by have := HN.out; omega
    have hQn' : (Q : Int) < n := by omega
    have hQn2 : ¬ (n : Int) ≤ Q := by omega
    obtain ⟨qb, qo, rfl, hcs⟩ := hl.cells (by omega)
    have HPC := hid (hcs Q hQn).2.1
    have HUP := hid (room_up HCL.out (q := (Q : Int)) hq.1 hq.2)
    rw [Int.toNat_natCast] at HUP
    have hpar := (right_of HCL.out.tree).par Q (by have := HN.out; omega)
    have HL := hid hl
    have HBK := hid hb
    obtain ⟨R, hR⟩ : ∃ R, roomR l b Q = R := ⟨_, rfl⟩
    rw [hR] at HK HUP
    obtain ⟨p, hp⟩ : ∃ p, (qu l Q).parent = p := ⟨_, rfl⟩
    rw [hp] at HUP hpar HPC
    have HK := hid HK
    have HNL := hid (show (l.length : Int) = n by have := HN.out; omega)
    have HC0 := hid hc
    clear he hc hq hcs hl hb hR hp
    go_enter Try.func4, Try.ntmps4
    go_wp2_with fail
    refine HK.out.mono ?_
    rintro e w1 ⟨ar, mr, kr, rfl, hr, hb⟩
    have HR1 := hid hr
    have HB1 := hid hb
    have cp := cell_later hb HPC.out
    clear hr hb
    by_cases hp0 : 0 ≤ p
    · have hp1 : ¬ p < 0 := by omega
      have K := RoomOf_ok w1 _ n cap l (HL.out.later HB1.out) ba bn bc b (HBK.out.later HB1.out) p HC0.out hp0 (by omega)
      have HK2 := hid K
      clear K
      go_wp2_with fail
      refine HK2.out.mono ?_
      rintro e w2 ⟨au, mu, ku, rfl, hr, hb⟩
      have HRU := hid hr
      have HR2 := hid (HR1.out.later hb)
      have HB2 := hid (below_from HB1.out hb)
      clear hr hb cp
      have K := Lesser_any w2 ar au mr mu kr ku R _ HR2.out HRU.out
      rw [HUP.out] at K
      have HK3 := hid K
      clear K
      go_wp2_with fail
      refine HK3.out.mono ?_
      rintro e w3 ⟨al, ml, kl, rfl, hr, hb⟩
      obtain rfl : ml = mr := hr.len.trans HR2.out.len.symm
      have HRL := hid hr
      have HR3 := hid (HR2.out.later hb)
      have HB3 := hid (below_from HB2.out hb)
      clear hr hb
      go_wp2_with fail
      refine (SameRuns_same w3 al ar _ kl kr R HRL.out HR3.out).mono ?_
      rintro e w4 ⟨rfl, hd⟩
      have HR4 := hid (HR3.out.later (below_of_drawn hd))
      have HB4 := hid (below_from HB3.out (below_of_drawn hd))
      clear hd
      have K := First_any w4 ar ml kr R HR4.out fr 48 L m
      obtain ⟨A, hA⟩ : ∃ A, firstR R fr 48 L m = A := ⟨_, rfl⟩
      rw [hA] at K
      by_cases hz : A.2.2 = 0
      · rw [← hA] at hz
        obtain ⟨g0, g1, g2, g3, g4, g5⟩ := first_told hz
        rw [hA] at g5
        have g4' : L ≤ 24 := g4
        rcases g5 with ⟨t, rfl, k1, k2, k3, k4⟩ | ⟨rfl, k4⟩
        · have HK4 := hid k4
          have hlt1 : ¬ (t : Int) < fr := by omega
          have hlt2 : ¬ (48 : Int) < (t : Int) + L := by omega
          have KL := Least_any w4 ar ml kr R t (t + L) HR4.out
          have ht48 : (t : Int) ≤ 48 := by omega
          have HKx := hid K
          have HLS := hid fun Y (hY : Below w4.heap.size w4 Y) (s : Int) => Least_any Y ar ml kr R s (s + L) (HR4.out.later hY)
          have HLI := hid (least_in (f := R) g0 (s := (t : Int)) (L := L) (by omega) g3 k2)
          have HG0 := hid g0
          rw [Int.toNat_natCast] at HLI
          obtain ⟨x, hx⟩ : ∃ x, lowTo (vals R) t L.toNat = x := ⟨_, rfl⟩
          rw [hx] at HLI k3
          have hmx : ¬ x < m := by omega
          clear K KL hA hz k4 g0 hx
          go_wp2_with fail
          refine HKx.out.mono ?_
          rintro e w7 ⟨rfl, hb⟩
          have HB7 := hid (below_from HB4.out hb)
          have HBX := hid hb
          clear hb
          go_wp2_with fail
          have K := HLS.out w7 HBX.out t
          rw [HLI.out] at K
          refine K.mono ?_
          clear K
          rintro e w8 ⟨rfl, hb⟩
          have HB8 := hid (below_from HB7.out hb)
          have HBY := hid (below_from HBX.out hb)
          clear hb
          go_wp2_with fail
          go_loopw [26] (fun p wr => ∃ s : Nat, p = .int .i64 s ∧ fr ≤ s ∧ s ≤ 48 ∧ Below w8.heap.size w8 wr) (fun p _ => 48 - (intOf p).toNat)
          case atStart => exact ⟨fr.toNat, by rw [Int.toNat_of_nonneg g1], by omega, by omega, Below.refl _ _⟩
          case round =>
            obtain ⟨s, rfl, hs1, hs2, hbel⟩ := hrel
            have HBL := hid hbel
            clear hbel
            by_cases hs3 : s < t
            · have hs3' : (s : Int) < t := by omega
              have hs4 : (s : Int) < 48 := by omega
              have K := HLS.out wr (below_from HBY.out HBL.out) s
              by_cases hs5 : (s : Int) + L ≤ 48
              · have hno := HK4.out s hs1 hs3 hs5
                have hin := least_in (f := R) HG0.out (s := (s : Int)) (L := L) (by omega) g3 hs5
                rw [Int.toNat_natCast] at hin
                rw [hin] at K
                obtain ⟨y, hy⟩ : ∃ y, lowTo (vals R) s L.toNat = y := ⟨_, rfl⟩
                rw [hy] at K hno
                have hno' : ¬ m ≤ y := by omega
                have HK5 := hid K
                clear K hin hy
                go_wp2_with fail
                refine HK5.out.mono ?_
                rintro e w9 ⟨rfl, hb⟩
                have HB9 := hid (below_from HBL.out hb)
                clear hb
                go_wp2
                go_roundw
                case rel => exact ⟨s + 1, by go_num, by omega, by omega, HB9.out⟩
                case measure => simp [intOf]; omega
              · have hout := least_out (f := R) HG0.out (s := (s : Int)) (L := L) (by omega)
                obtain ⟨y, hy⟩ : ∃ y, leastR R s (s + L) = y := ⟨_, rfl⟩
                rw [hy] at K hout
                obtain ⟨y1, y2⟩ := y
                simp only at hout
                subst hout
                have HK5 := hid K
                clear K hy
                go_wp2_with fail
                refine HK5.out.mono ?_
                rintro e w9 ⟨rfl, hb⟩
                have HB9 := hid (below_from HBL.out hb)
                clear hb
                go_wp2
                go_roundw
                case rel => exact ⟨s + 1, by go_num, by omega, by omega, HB9.out⟩
                case measure => simp [intOf]; omega
            · have hs3' : ¬ (s : Int) < t := by omega
              go_wp2_with fail
              all_goals
                refine (roomBegun_any wr).mono ?_
                rintro e w9 ⟨rfl, hb⟩
                have HB9 := hid (below_from (below_from HB8.out HBL.out) hb)
                clear hb
                go_wp2
                go_ret
                exact ⟨rfl, HB9.out⟩
        · have HK4 := hid k4
          have HKx := hid K
          have HLS := hid fun Y (hY : Below w4.heap.size w4 Y) (s : Int) => Least_any Y ar ml kr R s (s + L) (HR4.out.later hY)
          have HG0 := hid g0
          clear K hA hz k4 g0
          go_wp2_with fail
          refine HKx.out.mono ?_
          rintro e w7 ⟨rfl, hb⟩
          have HB7 := hid (below_from HB4.out hb)
          have HBX := hid hb
          clear hb
          go_wp2_with fail
          go_loopw [26] (fun p wr => ∃ s : Nat, p = .int .i64 s ∧ fr ≤ s ∧ s ≤ 48 ∧ Below w7.heap.size w7 wr) (fun p _ => 48 - (intOf p).toNat)
          case atStart => exact ⟨fr.toNat, by rw [Int.toNat_of_nonneg g1], by omega, by omega, Below.refl _ _⟩
          case round =>
            obtain ⟨s, rfl, hs1, hs2, hbel⟩ := hrel
            have HBL := hid hbel
            clear hbel
            by_cases hs3 : s < 48
            · have hs4 : (s : Int) < 48 := by omega
              have K := HLS.out wr (below_from HBX.out HBL.out) s
              by_cases hs5 : (s : Int) + L ≤ 48
              · have hno := HK4.out s hs1 hs5
                have hin := least_in (f := R) HG0.out (s := (s : Int)) (L := L) (by omega) g3 hs5
                rw [Int.toNat_natCast] at hin
                rw [hin] at K
                obtain ⟨y, hy⟩ : ∃ y, lowTo (vals R) s L.toNat = y := ⟨_, rfl⟩
                rw [hy] at K hno
                have hno' : ¬ m ≤ y := by omega
                have HK5 := hid K
                clear K hin hy
                go_wp2_with fail
                refine HK5.out.mono ?_
                rintro e w9 ⟨rfl, hb⟩
                have HB9 := hid (below_from HBL.out hb)
                clear hb
                go_wp2
                go_roundw
                case rel => exact ⟨s + 1, by go_num, by omega, by omega, HB9.out⟩
                case measure => simp [intOf]; omega
              · have hout := least_out (f := R) HG0.out (s := (s : Int)) (L := L) (by omega)
                obtain ⟨y, hy⟩ : ∃ y, leastR R s (s + L) = y := ⟨_, rfl⟩
                rw [hy] at K hout
                obtain ⟨y1, y2⟩ := y
                simp only at hout
                subst hout
                have HK5 := hid K
                clear K hy
                go_wp2_with fail
                refine HK5.out.mono ?_
                rintro e w9 ⟨rfl, hb⟩
                have HB9 := hid (below_from HBL.out hb)
                clear hb
                go_wp2
                go_roundw
                case rel => exact ⟨s + 1, by go_num, by omega, by omega, HB9.out⟩
                case measure => simp [intOf]; omega
            · obtain rfl : s = 48 := by omega
              go_wp2_with fail
              refine (roomBegun_any wr).mono ?_
              rintro e w9 ⟨rfl, hb⟩
              have HB9 := hid (below_from (below_from HB7.out HBL.out) hb)
              clear hb
              go_wp2
              go_ret
              exact ⟨rfl, HB9.out⟩
      · obtain ⟨x, y, z⟩ := A
        simp only at hz
        have hzb : (z != 0) = true := by simp [hz]
        have HKx := hid K
        clear K hA hz
        go_wp2_with fail
        refine HKx.out.mono ?_
        rintro e w7 ⟨rfl, hb⟩
        have HB7 := hid (below_from HB4.out hb)
        clear hb
        go_wp2_with fail
        refine (roomBegun_any w7).mono ?_
        rintro e w9 ⟨rfl, hb⟩
        have HB9 := hid (below_from HB7.out hb)
        clear hb
        go_wp2
        go_ret
        exact ⟨rfl, HB9.out⟩
    · have hp1 : p < 0 := by omega
      have K := First_any w1 ar mr kr R HR1.out fr 48 L m
      obtain ⟨A, hA⟩ : ∃ A, firstR R fr 48 L m = A := ⟨_, rfl⟩
      rw [hA] at K
      by_cases hz : A.2.2 = 0
      · rw [← hA] at hz
        obtain ⟨g0, g1, g2, g3, g4, g5⟩ := first_told hz
        rw [hA] at g5
        have g4' : L ≤ 24 := g4
        rcases g5 with ⟨t, rfl, k1, k2, k3, k4⟩ | ⟨rfl, k4⟩
        · have HK4 := hid k4
          have hlt1 : ¬ (t : Int) < fr := by omega
          have hlt2 : ¬ (48 : Int) < (t : Int) + L := by omega
          have KL := Least_any w1 ar mr kr R t (t + L) HR1.out
          have ht48 : (t : Int) ≤ 48 := by omega
          have HKx := hid K
          have HLS := hid fun Y (hY : Below w1.heap.size w1 Y) (s : Int) => Least_any Y ar mr kr R s (s + L) (HR1.out.later hY)
          have HLI := hid (least_in (f := R) g0 (s := (t : Int)) (L := L) (by omega) g3 k2)
          have HG0 := hid g0
          rw [Int.toNat_natCast] at HLI
          obtain ⟨x, hx⟩ : ∃ x, lowTo (vals R) t L.toNat = x := ⟨_, rfl⟩
          rw [hx] at HLI k3
          have hmx : ¬ x < m := by omega
          clear K KL hA hz k4 g0 hx
          go_wp2_with fail
          refine HKx.out.mono ?_
          rintro e w7 ⟨rfl, hb⟩
          have HB7 := hid (below_from HB1.out hb)
          have HBX := hid hb
          clear hb
          go_wp2_with fail
          have K := HLS.out w7 HBX.out t
          rw [HLI.out] at K
          refine K.mono ?_
          clear K
          rintro e w8 ⟨rfl, hb⟩
          have HB8 := hid (below_from HB7.out hb)
          have HBY := hid (below_from HBX.out hb)
          clear hb
          go_wp2_with fail
          go_loopw [26] (fun p wr => ∃ s : Nat, p = .int .i64 s ∧ fr ≤ s ∧ s ≤ 48 ∧ Below w8.heap.size w8 wr) (fun p _ => 48 - (intOf p).toNat)
          case atStart => exact ⟨fr.toNat, by rw [Int.toNat_of_nonneg g1], by omega, by omega, Below.refl _ _⟩
          case round =>
            obtain ⟨s, rfl, hs1, hs2, hbel⟩ := hrel
            have HBL := hid hbel
            clear hbel
            by_cases hs3 : s < t
            · have hs3' : (s : Int) < t := by omega
              have hs4 : (s : Int) < 48 := by omega
              have K := HLS.out wr (below_from HBY.out HBL.out) s
              by_cases hs5 : (s : Int) + L ≤ 48
              · have hno := HK4.out s hs1 hs3 hs5
                have hin := least_in (f := R) HG0.out (s := (s : Int)) (L := L) (by omega) g3 hs5
                rw [Int.toNat_natCast] at hin
                rw [hin] at K
                obtain ⟨y, hy⟩ : ∃ y, lowTo (vals R) s L.toNat = y := ⟨_, rfl⟩
                rw [hy] at K hno
                have hno' : ¬ m ≤ y := by omega
                have HK5 := hid K
                clear K hin hy
                go_wp2_with fail
                refine HK5.out.mono ?_
                rintro e w9 ⟨rfl, hb⟩
                have HB9 := hid (below_from HBL.out hb)
                clear hb
                go_wp2
                go_roundw
                case rel => exact ⟨s + 1, by go_num, by omega, by omega, HB9.out⟩
                case measure => simp [intOf]; omega
              · have hout := least_out (f := R) HG0.out (s := (s : Int)) (L := L) (by omega)
                obtain ⟨y, hy⟩ : ∃ y, leastR R s (s + L) = y := ⟨_, rfl⟩
                rw [hy] at K hout
                obtain ⟨y1, y2⟩ := y
                simp only at hout
                subst hout
                have HK5 := hid K
                clear K hy
                go_wp2_with fail
                refine HK5.out.mono ?_
                rintro e w9 ⟨rfl, hb⟩
                have HB9 := hid (below_from HBL.out hb)
                clear hb
                go_wp2
                go_roundw
                case rel => exact ⟨s + 1, by go_num, by omega, by omega, HB9.out⟩
                case measure => simp [intOf]; omega
            · have hs3' : ¬ (s : Int) < t := by omega
              go_wp2_with fail
              all_goals
                refine (roomBegun_any wr).mono ?_
                rintro e w9 ⟨rfl, hb⟩
                have HB9 := hid (below_from (below_from HB8.out HBL.out) hb)
                clear hb
                go_wp2
                go_ret
                exact ⟨rfl, HB9.out⟩
        · have HK4 := hid k4
          have HKx := hid K
          have HLS := hid fun Y (hY : Below w1.heap.size w1 Y) (s : Int) => Least_any Y ar mr kr R s (s + L) (HR1.out.later hY)
          have HG0 := hid g0
          clear K hA hz k4 g0
          go_wp2_with fail
          refine HKx.out.mono ?_
          rintro e w7 ⟨rfl, hb⟩
          have HB7 := hid (below_from HB1.out hb)
          have HBX := hid hb
          clear hb
          go_wp2_with fail
          go_loopw [26] (fun p wr => ∃ s : Nat, p = .int .i64 s ∧ fr ≤ s ∧ s ≤ 48 ∧ Below w7.heap.size w7 wr) (fun p _ => 48 - (intOf p).toNat)
          case atStart => exact ⟨fr.toNat, by rw [Int.toNat_of_nonneg g1], by omega, by omega, Below.refl _ _⟩
          case round =>
            obtain ⟨s, rfl, hs1, hs2, hbel⟩ := hrel
            have HBL := hid hbel
            clear hbel
            by_cases hs3 : s < 48
            · have hs4 : (s : Int) < 48 := by omega
              have K := HLS.out wr (below_from HBX.out HBL.out) s
              by_cases hs5 : (s : Int) + L ≤ 48
              · have hno := HK4.out s hs1 hs5
                have hin := least_in (f := R) HG0.out (s := (s : Int)) (L := L) (by omega) g3 hs5
                rw [Int.toNat_natCast] at hin
                rw [hin] at K
                obtain ⟨y, hy⟩ : ∃ y, lowTo (vals R) s L.toNat = y := ⟨_, rfl⟩
                rw [hy] at K hno
                have hno' : ¬ m ≤ y := by omega
                have HK5 := hid K
                clear K hin hy
                go_wp2_with fail
                refine HK5.out.mono ?_
                rintro e w9 ⟨rfl, hb⟩
                have HB9 := hid (below_from HBL.out hb)
                clear hb
                go_wp2
                go_roundw
                case rel => exact ⟨s + 1, by go_num, by omega, by omega, HB9.out⟩
                case measure => simp [intOf]; omega
              · have hout := least_out (f := R) HG0.out (s := (s : Int)) (L := L) (by omega)
                obtain ⟨y, hy⟩ : ∃ y, leastR R s (s + L) = y := ⟨_, rfl⟩
                rw [hy] at K hout
                obtain ⟨y1, y2⟩ := y
                simp only at hout
                subst hout
                have HK5 := hid K
                clear K hy
                go_wp2_with fail
                refine HK5.out.mono ?_
                rintro e w9 ⟨rfl, hb⟩
                have HB9 := hid (below_from HBL.out hb)
                clear hb
                go_wp2
                go_roundw
                case rel => exact ⟨s + 1, by go_num, by omega, by omega, HB9.out⟩
                case measure => simp [intOf]; omega
            · obtain rfl : s = 48 := by omega
              go_wp2_with fail
              refine (roomBegun_any wr).mono ?_
              rintro e w9 ⟨rfl, hb⟩
              have HB9 := hid (below_from (below_from HB7.out HBL.out) hb)
              clear hb
              go_wp2
              go_ret
              exact ⟨rfl, HB9.out⟩
      · obtain ⟨x, y, z⟩ := A
        simp only at hz
        have hzb : (z != 0) = true := by simp [hz]
        have HKx := hid K
        clear K hA hz
        go_wp2_with fail
        refine HKx.out.mono ?_
        rintro e w7 ⟨rfl, hb⟩
        have HB7 := hid (below_from HB1.out hb)
        clear hb
        go_wp2_with fail
        refine (roomBegun_any w7).mono ?_
        rintro e w9 ⟨rfl, hb⟩
        have HB9 := hid (below_from HB7.out hb)
        clear hb
        go_wp2
        go_ret
        exact ⟨rfl, HB9.out⟩
  · rw [if_neg he] at HK
    obtain ⟨er, her⟩ : ∃ er, roomE l b q = er := ⟨_, rfl⟩
    rw [her] at HK he
    have hne : (er != 0) = true := by simp [he]
    have HK := hid HK
    clear he her hl hb
    go_enter Try.func4, Try.ntmps4
    go_wp2_with fail
    refine HK.out.mono ?_
    rintro e w1 ⟨ar, mr, kr, rfl, _, hb⟩
    have HB1 := hid hb
    clear hb
    go_wp2_with fail
    refine (roomBegun_any w1).mono ?_
    rintro e w2 ⟨rfl, hb⟩
    have HB2 := hid (below_from HB1.out hb)
    clear hb
    go_wp2
    go_ret
    exact ⟨rfl, HB2.out⟩

set_option maxRecDepth 100000 in
theorem RoomTrue_lifted (os : Os) (started : os.Started) (H : Type) (enc : TypeId × Value → H) :
    ReturnsInHanded {} Try.checked os 4 .any (Rows.roomTrueSpec.pre6 enc Try.prog Try.f4 Rows.roomTrueRow.domain false) (Rows.roomTrueSpec.post enc Try.prog Try.f4 false true false false) := by
  refine returnsInHanded_of_change (C := Try.checked) own started (by kernel_rfl) Try.func4
    (ChangeSpec.witness6 (enc := enc) (C := Try.checked) false ⟨#[], #[.slice none 0 0, .slice none 0 0, .int .i64 0, .int .i64 0, .int .i64 0, .int .i64 0], []⟩ 8 (by kernel_rfl) (by kernel_rfl) (by kernel_rfl) (by kernel_rfl)) ?_
  intro W base args ds gs before hval0 hW hcnd _
  have hval : ∀ (j : Nat) t v, Try.f4.params[j]? = some t → args[j]? = some v → Value.okWide Try.prog W .any base t v := hval0
  have hW' := hW
  obtain ⟨p, q, hA0, hV, rfl, hfz, hnd⟩ := hW
  have hA : DataW.TrodAll enc Try.prog W 0 (fun _ => true) true Try.f4.params.toList args.toList ds p := hA0
  rw [Try.params4] at hA hval
  obtain ⟨v0, vs0, d0, ds0, p0, q0, hargs, rfl, rfl, h0, r0⟩ := trodAll_cons hA
  obtain ⟨v1, vs1, d1, ds1, p1, q1, rfl, rfl, rfl, h1, r1⟩ := trodAll_cons r0
  obtain ⟨v2, vs2, d2, ds2, p2, q2, rfl, rfl, rfl, h2, r2⟩ := trodAll_cons r1
  obtain ⟨v3, vs3, d3, ds3, p3, q3, rfl, rfl, rfl, h3, r3⟩ := trodAll_cons r2
  obtain ⟨v4, vs4, d4, ds4, p4, q4, rfl, rfl, rfl, h4, r4⟩ := trodAll_cons r3
  obtain ⟨v5, vs5, d5, ds5, p5, q5, rfl, rfl, rfl, h5, r5⟩ := trodAll_cons r4
  obtain ⟨rfl, rfl, rfl⟩ := trodAll_nil r5
  obtain rfl : args = #[v0, v1, v2, v3, v4, v5] := by cases args; simp_all
  obtain ⟨rfl, rfl⟩ := trodVars_none hV
  have k0 := h0
  have lt0 : ∀ x ∈ p0, x.block < W.heap.size := by obtain ⟨m, hm⟩ := k0; exact DataW.trod_lt m _ _ _ hm
  obtain ⟨a0, len0, cap0, rfl⟩ := okWide_slice Try.underlying28 (hval 0 28 v0 rfl rfl)
  obtain ⟨l0, w0⟩ : ∃ l, QsIn W a0 len0 cap0 l := by
    obtain ⟨fuel, hf⟩ := h0
    exact qs_open (by simp [Value.cells]) hf
  have k1 := h1
  have lt1 : ∀ x ∈ p1, x.block < W.heap.size := by obtain ⟨m, hm⟩ := k1; exact DataW.trod_lt m _ _ _ hm
  obtain ⟨a1, len1, cap1, rfl⟩ := okWide_slice Try.underlying29 (hval 1 29 v1 rfl rfl)
  obtain ⟨l1, w1⟩ : ∃ l, BksIn W a1 len1 cap1 l := by
    obtain ⟨fuel, hf⟩ := h1
    exact bks_open (by simp [Value.cells]) hf
  obtain ⟨a2, rfl, rfl, rfl, w2⟩ := open_int Try.underlying3 (hval 2 3 v2 rfl rfl) h2
  obtain ⟨a3, rfl, rfl, rfl, w3⟩ := open_int Try.underlying3 (hval 3 3 v3 rfl rfl) h3
  obtain ⟨a4, rfl, rfl, rfl, w4⟩ := open_int Try.underlying3 (hval 4 3 v4 rfl rfl) h4
  obtain ⟨a5, rfl, rfl, rfl, w5⟩ := open_int Try.underlying3 (hval 5 3 v5 rfl rfl) h5
  clear hA0 hval0
  refine (RoomTrue_walk W a0 len0 cap0 l0 w0 a1 len1 cap1 l1 w1 a2 a3 a4 a5).mono fun e W' ⟨he, bel⟩ => ?_
  subst he
  exact ⟨_, rfl, _, _, _, [], _, [], hW', trodAll_mk1 (shut_bool Try.underlying4 _), (trodAll_cons_mk (Below.trod laidOut (by kernel_rfl) (of_decide_eq_true (by kernel_rfl)) k0 bel lt0) (trodAll_cons_mk (Below.trod laidOut (by kernel_rfl) (of_decide_eq_true (by kernel_rfl)) k1 bel lt1) (trodAll_cons_mk (shut_int Try.underlying3 w2) (trodAll_cons_mk (shut_int Try.underlying3 w3) (trodAll_cons_mk (shut_int Try.underlying3 w4) (trodAll_cons_mk (shut_int Try.underlying3 w5) trodAll_mk0)))))), rfl, bel.frame _, fun h => by cases h⟩

theorem RoomTrue_holds : Rows.RoomTrueSaid :=
  OpenClaim.holds_of_wide 4 Try.f4 rfl rfl rfl rfl rfl rfl rfl ⟨rfl, rfl, rfl, rfl, rfl⟩ rfl rfl rfl rfl rfl (by kernel_rfl) Try.func4 (by kernel_rfl)
    (of_decide_eq_true (by kernel_rfl)) (by unfold Func.isWrapper; first | (rw [if_pos (by decide +kernel)]; kernel_rfl) | (rw [if_neg (by decide +kernel)]; exact ⟨rfl, rfl⟩))
    (fun os started H enc _ => RoomTrue_lifted os started H enc)
#print axioms RoomTrue_holds
end Go.Proofs.Ytlkaamgmjgkpaac
