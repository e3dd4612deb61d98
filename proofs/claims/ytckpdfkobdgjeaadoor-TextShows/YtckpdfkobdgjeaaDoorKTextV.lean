/- The reference's cut, said, Digits. -/
import Derived.Test.YtckpdfkobdgjeaaDoorKTextT
namespace Go.Proofs.YtckpdfkobdgjeaaDoor
open Go.RowKit
def CutAns (w w' : World) (e : Ending) (s sep : ByteArray) : Prop :=
  ∃ (s1 s2 : ByteArray) (f : Bool), e = .returned (.tuple #[.string s1, .string s2, .bool f]) ∧ Lib.cut s.data.toList sep.data.toList = (s1.data.toList, s2.data.toList, f) ∧ s1.size ≤ s.size ∧ s2.size ≤ s.size ∧ (f = true → s2.size + sep.size ≤ s.size) ∧ (f = false → s2.size = 0) ∧ Below w.heap.size w w'
theorem cut_first {s sep : ByteArray} {i : Nat} (hi : i + sep.size ≤ s.size) (ho : Lib.occAt s.data.toList sep.data.toList i = true) (hn : ∀ j, j < i → Lib.occAt s.data.toList sep.data.toList j = false) :
    Lib.cut s.data.toList sep.data.toList = ((s.extract 0 i).data.toList, (s.extract (i + sep.size) s.size).data.toList, true) := by
  have h1 := Lib.index_first (s := s.data.toList) (sub := sep.data.toList) (i := i) (by rw [← Lib.size_eq]; omega) ho hn
  unfold Lib.cut
  rw [h1, if_pos (by omega), Int.toNat_natCast, extract_list, Lib.extract_to_end, Lib.size_eq sep]
  simp
theorem cut_none {s sep : ByteArray} {i : Nat} (hi : s.size < i + sep.size) (hp : 0 < sep.size) (hn : ∀ j, j < i → Lib.occAt s.data.toList sep.data.toList j = false) :
    Lib.cut s.data.toList sep.data.toList = (s.data.toList, [], false) := by
  have h1 : Lib.index s.data.toList sep.data.toList = -1 := by
    refine Lib.index_none fun j _ => ?_
    by_cases hj : j < i
    · exact hn j hj
    · cases ho : Lib.occAt s.data.toList sep.data.toList j with
      | false => rfl
      | true =>
        exfalso
        rcases Lib.occAt_room ho with h | h
        · rw [← Lib.size_eq, ← Lib.size_eq] at h; omega
        · have : sep.size = 0 := by rw [Lib.size_eq, h]; rfl
          omega
  unfold Lib.cut
  rw [h1, if_neg (by omega)]
set_option maxRecDepth 100000 in
set_option maxHeartbeats 1000000 in
theorem cutR_any (s sep : ByteArray) (w : World) (hs : s.size ≤ 4096) (hp : 0 < sep.size) (hq : sep.size ≤ 8) :
    Calls Tryd.prog 23 #[.string s, .string sep] w fun e w' => CutAns w w' e s sep := by
  go_enter Tryd.func23, Tryd.ntmps23
  go_wp2
  go_loopw [7] (fun p wr => ∃ i : Nat, p = .int .i64 i ∧ i ≤ s.size ∧ Hid (∀ j, j < i → Lib.occAt s.data.toList sep.data.toList j = false) ∧ w = wr) (fun p _ => s.size + 1 - (intOf p).toNat)
  case atStart => exact ⟨0, rfl, Nat.zero_le _, fun j hj => by omega, rfl⟩
  case round =>
    obtain ⟨i, rfl, hi, hn, rfl⟩ := hrel
    by_cases hlt : i + sep.size ≤ s.size
    · have hlt' : (i : Int) + sep.size ≤ s.size := by omega
      have hoc := Lib.occ_of_piece s sep i hlt
      cases ho : Lib.occAt s.data.toList sep.data.toList i with
      | true =>
        rw [ho] at hoc
        have hoc' := hoc.symm
        have HO := hid ho
        clear hoc ho
        go_wp2
        go_region
        go_wp2
        go_ret3
        refine ⟨_, _, _, rfl, cut_first hlt HO.out hn.out, ?_, ?_, fun _ => ?_, (fun h => by cases h), _root_.Go.below_drewN (Below.refl _ _) 1⟩
        · rw [Lib.size_eq, extract_list, List.length_take, Nat.sub_zero, List.drop_zero, ← Lib.size_eq]; omega
        · rw [Lib.size_eq, Lib.extract_to_end, List.length_drop, ← Lib.size_eq]; omega
        · rw [Lib.size_eq (s.extract _ _), Lib.extract_to_end, List.length_drop, ← Lib.size_eq]; omega
      | false =>
        rw [ho] at hoc
        have hoc' := hoc.symm
        have HO := hid ho
        clear hoc ho
        go_wp2
        go_roundw
        case rel => 
          refine ⟨i + 1, by go_num, by omega, fun j hj => ?_, trivial⟩
          by_cases e : j = i
          · subst e; exact HO.out
          · exact hn.out j (by omega)
        case measure => simp [intOf]; omega
    · have hlt' : ¬ ((i : Int) + sep.size ≤ s.size) := by omega
      go_wp2
      go_ret3
      exact ⟨_, _, _, rfl, cut_none (by omega) hp hn.out, Nat.le_refl _, Nat.zero_le _, (fun h => by cases h), (fun _ => rfl), Below.refl _ _⟩
def sndTo (s : Bs) : Nat → Int
  | 0 => 0
  | k + 1 => 10 * sndTo s k + ((s.getD k 0).toNat : Int) - 48
theorem sndTo_eq (s : Bs) : ∀ k, k ≤ s.length → sndTo s k = saidTo (s.take k)
  | 0, _ => by simp [sndTo, saidTo]
  | k + 1, hk => by
    rw [sndTo, sndTo_eq s k (by omega)]
    have : s.take (k + 1) = s.take k ++ [s.getD k 0] := by
      rw [List.take_succ_eq_append_getElem (by omega)]; simp [List.getD, show k < s.length by omega]
    unfold saidTo
    rw [this, List.foldl_append]
    rfl
def bnd : Nat → Int
  | 0 => 0
  | k + 1 => 10 * bnd k + 255
theorem sndTo_bnd (s : Bs) : ∀ k, -bnd k ≤ sndTo s k ∧ sndTo s k ≤ bnd k
  | 0 => by simp [sndTo, bnd]
  | k + 1 => by
    have ih := sndTo_bnd s k
    have := (s.getD k 0).toNat_lt
    rw [sndTo, bnd]
    omega
theorem bnd_le : ∀ k, k ≤ 6 → 0 ≤ bnd k ∧ bnd k ≤ 100000000
  | 0, _ => by decide
  | 1, _ => by decide
  | 2, _ => by decide
  | 3, _ => by decide
  | 4, _ => by decide
  | 5, _ => by decide
  | 6, _ => by decide
  | k + 7, h => by omega
set_option maxRecDepth 100000 in
set_option maxHeartbeats 1000000 in
theorem said_any (s : ByteArray) (w : World) (hs : s.size ≤ 4096) : Calls Tryd.prog 24 #[.string s] w fun e w' => e = .returned (.int .i64 (saidF s.data.toList)) ∧ Below w.heap.size w w' := by
  have hsl : s.data.toList.length = s.size := (Lib.size_eq s).symm
  by_cases hw : 1 ≤ s.size ∧ s.size ≤ 6
  · have hw' : wth (s.size : Int) 1 6 = true := by simp [wth]; omega
    go_enter Tryd.func24, Tryd.ntmps24
    go_wp2_with fail
    refine (within_any _ _ _ _).mono ?_
    rintro e w1 ⟨rfl, rfl⟩
    rw [hw']
    go_wp2_with fail
    go_loopw [3, 4] (fun q p wr => ∃ i : Nat, q = .int .i64 (sndTo s.data.toList i) ∧ p = .int .i64 i ∧ i ≤ s.size ∧ w1 = wr) (fun _ p _ => s.size - (intOf p).toNat)
    case atStart => exact ⟨0, rfl, rfl, Nat.zero_le _, rfl⟩
    case round =>
      obtain ⟨i, rfl, rfl, hi, rfl⟩ := hrel
      by_cases hlt : i < s.size
      · have hlt' : (i : Int) < s.size := by omega
        obtain ⟨z1, z2⟩ := bnd_le i (by omega)
        obtain ⟨z3, z4⟩ := sndTo_bnd s.data.toList i
        have hbt := (s[i]).toNat_lt
        have hgd : (s.data.toList.getD i 0) = s[i] := by rw [List.getD_eq_getElem?_getD, Lib.data_getElem? s i hlt]; rfl
        obtain ⟨N, hN⟩ : ∃ N, sndTo s.data.toList i = N := ⟨_, rfl⟩
        have hN1 : sndTo s.data.toList (i + 1) = 10 * N + (s[i].toNat : Int) - 48 := by rw [sndTo, hN, hgd]
        rw [hN] at z3 z4 ⊢
        have z5 : wrap64 (10 * N) = 10 * N := by unfold wrap64; omega
        have z6 : wrap64 (s[i].toNat : Int) = (s[i].toNat : Int) := by unfold wrap64; omega
        have z7 : wrap64 (10 * N + (s[i].toNat : Int)) = 10 * N + (s[i].toNat : Int) := by unfold wrap64; omega
        have z8 : wrap64 (10 * N + (s[i].toNat : Int) - 48) = 10 * N + (s[i].toNat : Int) - 48 := by unfold wrap64; omega
        have HN := hid hN1
        clear hN hN1 hgd
        go_wp2
        go_roundw
        case rel => exact ⟨i + 1, by rw [HN.out], by go_num, by omega, trivial⟩
        case measure => simp [intOf]; omega
      · obtain rfl : i = s.size := by omega
        have HE : Hid (saidF s.data.toList = sndTo s.data.toList s.size) := by
          show saidF s.data.toList = sndTo s.data.toList s.size
          rw [sndTo_eq _ _ (by omega), ← hsl, List.take_length, saidF, if_pos (by omega)]
        go_wp2
        go_ret
        exact ⟨by rw [HE.out]; rfl, Below.refl _ _⟩
  · have hw' : wth (s.size : Int) 1 6 = false := by simp [wth]; omega
    have HE : Hid (saidF s.data.toList = 0) := by
      show saidF s.data.toList = 0
      rw [saidF, if_neg (by omega)]
    go_enter Tryd.func24, Tryd.ntmps24
    go_wp2_with fail
    refine (within_any _ _ _ _).mono ?_
    rintro e w1 ⟨rfl, rfl⟩
    rw [hw']
    go_wp2
    go_ret
    exact ⟨by rw [HE.out]; rfl, Below.refl _ _⟩
theorem dgt (d : Nat) (h : d < 10) : (UInt8.ofNat (48 + d)).toNat = 48 + d := by
  rw [UInt8.toNat_ofNat']
  omega
theorem conv_byte (w : World) (d : Nat) (h : d < 10) : (convert 36 9 (.slice (some ⟨w.heap.size, 0, none⟩) 1 1)).run Tryd.prog (w.alloc (.cells #[.int .u8 (48 + (d : Int))] 5)) = .ok (.string ⟨#[UInt8.ofNat (48 + d)]⟩) (w.alloc (.cells #[.int .u8 (48 + (d : Int))] 5)) := by
  refine run_convert_bytes_back (P := Tryd.prog) (w.alloc (.cells #[.int .u8 (48 + (d : Int))] 5)) 36 9 5 ⟨w.heap.size, 0, none⟩ 1 [UInt8.ofNat (48 + d)] Tryd.underlying36 Tryd.underlying5 Tryd.underlying9 (fun j hj => ?_)
  obtain rfl : j = 0 := by simpa using hj
  rw [Addr.add_lit, cell_of_row _ _ _ _ _ _ (heap_alloc_new w _)]
  have e : ((UInt8.ofNat (48 + d)).toNat : Int) = 48 + (d : Int) := by rw [dgt d h]; omega
  show some (Value.int .u8 (48 + (d : Int))) = some (Value.int .u8 ((UInt8.ofNat (48 + d)).toNat : Int))
  rw [e]
set_option maxRecDepth 100000 in
set_option maxHeartbeats 1000000 in
theorem Digits_one (n : Nat) (hn : n < 10) (w : World) : Calls Tryd.prog 19 #[.int .i64 n] w fun e w' => e = .returned (.string ⟨(Lib.decDigits n).toArray⟩) ∧ Below w.heap.size w w' := by
  have h1 : ¬ ((n : Int) < 0) := by omega
  have h2 : (n : Int) < 10 := by omega
  have h3 : (n : Int) % 10 = n := by omega
  have hcv := conv_byte w n hn
  rw [dec_dgB n (by omega), dgB, if_pos hn]
  obtain ⟨S1, hS1⟩ : ∃ S1 : ByteArray, (⟨#[UInt8.ofNat (48 + n)]⟩ : ByteArray) = S1 := ⟨_, rfl⟩
  have hS2 : (⟨[UInt8.ofNat (48 + n)].toArray⟩ : ByteArray) = S1 := hS1
  rw [hS2]
  rw [hS1] at hcv
  clear hS1 hS2
  go_enter Tryd.func19, Tryd.ntmps19
  go_wp2
  go_ret
  exact ⟨rfl, (Below.refl _ _).alloc (Nat.le_refl _) _⟩
set_option maxRecDepth 100000 in
set_option maxHeartbeats 1000000 in
theorem Digits_any (n : Nat) (hn : n < 100) (w : World) : Calls Tryd.prog 19 #[.int .i64 n] w fun e w' => e = .returned (.string ⟨(Lib.decDigits n).toArray⟩) ∧ Below w.heap.size w w' := by
  by_cases h10 : n < 10
  · exact Digits_one n h10 w
  · have h1 : ¬ ((n : Int) < 0) := by omega
    have h2 : ¬ ((n : Int) < 10) := by omega
    obtain ⟨d, hd⟩ : ∃ d, n % 10 = d := ⟨_, rfl⟩
    obtain ⟨q, hq⟩ : ∃ q, n / 10 = q := ⟨_, rfl⟩
    have h3 : (n : Int) % 10 = d := by omega
    have h4 : Int.tdiv (n : Int) 10 = q := by rw [← hq]; exact (Int.ofNat_tdiv n 10).symm
    have h5 : Int.tmod (n : Int) 10 = d := by rw [← hd]; exact (Int.ofNat_tmod n 10).symm
    have h6 : (n : Int) / 10 = q := by omega
    have hcv := conv_byte w d (by omega)
    have hone := Digits_one q (by omega)
    have hdec : Lib.decDigits n = [UInt8.ofNat (48 + q), UInt8.ofNat (48 + d)] := by rw [dec_dgB n hn, dgB, if_neg h10, hd, hq]
    have hdq : Lib.decDigits q = [UInt8.ofNat (48 + q)] := by rw [dec_dgB q (by omega), dgB, if_pos (by omega)]
    obtain ⟨S1, hS1⟩ : ∃ S1 : ByteArray, (⟨#[UInt8.ofNat (48 + d)]⟩ : ByteArray) = S1 := ⟨_, rfl⟩
    obtain ⟨S2, hS2⟩ : ∃ S2 : ByteArray, (⟨(Lib.decDigits q).toArray⟩ : ByteArray) = S2 := ⟨_, rfl⟩
    have hS3 : (⟨(Lib.decDigits n).toArray⟩ : ByteArray) = S2 ++ S1 := by
      apply bytes_ext.1
      rw [cat_list, ← hS1, ← hS2, hdec, hdq]
      rfl
    have z1 : S1.size = 1 := by rw [← hS1]; rfl
    have z2 : S2.size = 1 := by rw [← hS2, hdq]; rfl
    rw [hS1] at hcv
    rw [hS2] at hone
    rw [hS3]
    have HD := hid hone
    have HH := hid (And.intro hd hq)
    clear hS1 hS2 hS3 hdec hdq hone hd hq
    go_enter Tryd.func19, Tryd.ntmps19
    go_wp2_with fail
    refine (HD.out _).mono ?_
    rintro e w1 ⟨rfl, hb⟩
    go_wp2
    go_ret
    exact ⟨rfl, below_from ((Below.refl _ _).alloc (Nat.le_refl _) _) hb⟩
end Go.Proofs.YtckpdfkobdgjeaaDoor
